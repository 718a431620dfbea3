/- The contracts of wire.appendNum and wire.Num: the groups of seven bits of a number, behind what is there. · Plain facts on numbers as groups of seven bits: how a number is read back. No program. · The contract of wire.findNum: the number with which bytes begin, and how many bytes it takes. · The contract of bytes.Clone. · The contracts of wire.Text and wire.ReadText. · Slices of ints: what reads as a list of integers, what the call owns, steps of a walk. -/
import Derived.Test.YtgbhbifdfcfamaaFA
import Derived.Test.YtgbhbifdfcfamaaFC
namespace Go.Proofs.Ytgbhbifdfcfamaa
set_option maxRecDepth 100000
open Go.RowKit

/-- A number's groups of seven bits. -/
def numL (n : Nat) : List Nat := if n < 128 then [n] else (n % 128 + 128) :: numL (n / 128)
termination_by n
decreasing_by omega

theorem numL_small {n : Nat} (h : n < 128) : numL n = [n] := by rw [numL, if_pos h]
theorem numL_big {n : Nat} (h : 128 ≤ n) : numL n = (n % 128 + 128) :: numL (n / 128) := by rw [numL, if_neg (by omega)]
theorem numL_len : ∀ (k n : Nat), n < 128 ^ (k + 1) → (numL n).length ≤ k + 1
  | 0, n, h => by rw [numL_small (by omega)]; simp
  | k + 1, n, h => by
    by_cases hn : n < 128
    · rw [numL_small hn]; simp
    · rw [numL_big (by omega)]
      have := numL_len k (n / 128) (by rw [Nat.pow_succ] at h; omega)
      simp; omega
def W64 (n : Nat) : Prop := n < 18446744073709551616
theorem numL_len10 {n : Nat} (h : W64 n) : (numL n).length ≤ 10 := numL_len 9 n (by unfold W64 at h; omega)

theorem or128 (m : Nat) : bits .or .u8 ((m : Int) % 256) 128 = (m : Int) % 128 + 128 := by
  have h : ∀ k : Fin 256, bits .or .u8 (k.val : Int) 128 = ((k.val % 128 + 128 : Nat) : Int) := by decide +kernel
  have := h ⟨m % 256, Nat.mod_lt _ (by omega)⟩
  simp only at this
  rw [show ((m % 256 : Nat) : Int) = (m : Int) % 256 from by omega] at this
  rw [this]; omega

set_option maxRecDepth 100000 in
set_option maxHeartbeats 400000 in
theorem appendNum_any (base : Nat) (v : Value) (xs : List Nat) (x : Nat) (w : World) (hx : W64 x) (hxs : xs.length ≤ 140737488355000)
    (hown : OwnB base w v xs) (hb : base ≤ w.heap.size) :
    Calls Try.prog 82 #[v, .int .u64 x] w fun e w' => ∃ v', e = .returned v' ∧ OwnB base w' v' (xs ++ numL x) ∧ Below base w w' := by
  have hx10 := numL_len10 hx
  go_enter Try.func82, Try.ntmps82
  go_wp2
  go_loopw [0, 1] (fun v' n wr => ∃ (ys : List Nat) (m : Nat), n = .int .u64 m ∧ OwnB base wr v' (xs ++ ys) ∧ Hid (ys ++ numL m = numL x) ∧ Below base w wr ∧ ys.length ≤ 10)
    (fun _ n _ => (intOf n).toNat)
  case atStart => exact ⟨[], x, rfl, by simpa using hown, rfl, Below.refl _ _, by simp⟩
  case round =>
    obtain ⟨ys, m, rfl, ho, heq, hbw, hyl⟩ := hrel
    have hs := hbw.size
    have hor := or128 m
    have hbytes : (xs ++ ys).length + 1 ≤ 140737488355328 := by rw [List.length_append]; omega
    by_cases h128 : 128 ≤ m
    · go_wp2_with (at_builtin; refine appb (.tmp 9) (.tmp 13) rfl rfl rfl rfl (ho.ext ((Ext.refl _).alloc _)) (byt_one (n := m % 128 + 128) (by omega)) hbytes (by simp; omega) ?_; intro v1 w1 ho1 hb1 hg1)
      go_roundw
      case rel =>
        refine ⟨ys ++ [m % 128 + 128], m / 128, by go_num, by rw [← List.append_assoc]; exact ho1, ?_, hbw.trans ((((Below.refl _ _).alloc (by omega) _)).trans hb1), ?_⟩
        · have := heq.out; rw [numL_big h128] at this; unfold Hid; rw [← this]; simp
        · have := heq.out; rw [numL_big h128] at this; have := congrArg List.length this; simp at this ⊢; omega
      case measure => simp [intOf]; omega
    · go_wp2_with (at_builtin; refine appb (.tmp 15) (.tmp 18) rfl rfl rfl rfl (ho.ext ((Ext.refl _).alloc _)) (byt_one rfl) hbytes (by simp; omega) ?_; intro v1 w1 ho1 hb1 hg1)
      go_ret
      refine ⟨v1, rfl, ?_, hbw.trans ((((Below.refl _ _).alloc (by omega) _)).trans hb1)⟩
      have := heq.out; rw [numL_small (by omega)] at this; rw [← this, ← List.append_assoc]; exact ho1

end Go.Proofs.Ytgbhbifdfcfamaa
namespace Go.Proofs.Ytgbhbifdfcfamaa
set_option maxRecDepth 100000

/-- How the bytes are gone through, from byte i on, with acc read so far: the number, and how many bytes; 0 and 0, if there is none. -/
def scan : Nat → Nat → List Nat → Nat × Nat
  | _, _, [] => (0, 0)
  | i, acc, c :: r => if i = 9 ∧ 1 < c then (0, 0) else if 128 ≤ c then scan (i + 1) (acc + c % 128 * 128 ^ i) r else if c = 0 ∧ 0 < i then (0, 0) else (acc + c * 128 ^ i, i + 1)

theorem numL_ne (n : Nat) : numL n ≠ [] := by rw [numL]; split <;> simp
theorem numL_pos (n : Nat) : 0 < (numL n).length := List.length_pos_iff.2 (numL_ne n)

theorem scan_yes : ∀ (l : List Nat) (i acc m : Nat), numL m <+: l → (m ≠ 0 ∨ i = 0) → acc < 128 ^ i → acc + 128 ^ i * m < 2 ^ 64 → scan i acc l = (acc + 128 ^ i * m, i + (numL m).length)
  | [], i, acc, m, h, _, _, _ => absurd (List.prefix_nil.1 h) (numL_ne m)
  | c :: r, i, acc, m, h, h0, ha, hb => by
    have hi : i ≤ 9 := by
      rcases h0 with h0 | h0
      · apply Nat.le_of_not_lt; intro hlt
        have h1 : 128 ^ 10 ≤ 128 ^ i := Nat.pow_le_pow_right (by omega) hlt
        have h2 : 128 ^ i ≤ 128 ^ i * m := Nat.le_mul_of_pos_right _ (by omega)
        omega
      · omega
    by_cases hm : m < 128
    · rw [numL_small hm] at h
      have hc : m = c := (List.cons_prefix_cons.1 h).1
      subst hc
      rw [scan, if_neg, if_neg (by omega), if_neg (by omega), numL_small hm]
      · simp [Nat.mul_comm]
      · rintro ⟨rfl, h9⟩; omega
    · rw [numL_big (by omega)] at h
      obtain ⟨hc, hr⟩ := List.cons_prefix_cons.1 h
      have hp : 128 ^ (i + 1) = 128 * 128 ^ i := by rw [Nat.pow_succ, Nat.mul_comm]
      have hdm : 128 ^ i * m = 128 ^ i * (m % 128) + 128 * 128 ^ i * (m / 128) := by
        have := Nat.div_add_mod m 128
        calc 128 ^ i * m = 128 ^ i * (128 * (m / 128) + m % 128) := by rw [this]
          _ = _ := by rw [Nat.mul_add, Nat.add_comm, ← Nat.mul_assoc, Nat.mul_comm (128 ^ i) 128]
      have hc' : c % 128 = m % 128 := by omega
      have hmul : m % 128 * 128 ^ i ≤ 127 * 128 ^ i := Nat.mul_le_mul_right _ (by omega)
      rw [scan, if_neg, if_pos (by omega), scan_yes r (i + 1) _ (m / 128) hr (.inl (by omega)) (by rw [hc', hp]; omega) (by rw [hc', hp, Nat.mul_comm (m % 128)]; omega), numL_big (n := m) (by omega)]
      · rw [hc', hp, hdm, Nat.mul_comm (m % 128)]; simp; omega
      · rintro ⟨rfl, _⟩
        have : 1 ≤ m / 128 := by omega
        have : 128 * 128 ^ 9 * 1 ≤ 128 * 128 ^ 9 * (m / 128) := Nat.mul_le_mul_left _ this
        omega

theorem scan_some : ∀ (l : List Nat) (i acc : Nat), (∀ x ∈ l, x < 256) → acc < 128 ^ i → i ≤ 9 → (scan i acc l).2 ≠ 0 →
    ∃ m, numL m <+: l ∧ (m ≠ 0 ∨ i = 0) ∧ (scan i acc l).1 = acc + 128 ^ i * m ∧ (scan i acc l).2 = i + (numL m).length ∧ acc + 128 ^ i * m < 2 ^ 64
  | [], i, acc, _, _, _, h => by simp [scan] at h
  | c :: r, i, acc, hl, ha, hi, h => by
    have hp : 128 ^ (i + 1) = 128 * 128 ^ i := by rw [Nat.pow_succ, Nat.mul_comm]
    have h64 : ∀ x, acc < 128 ^ i → i ≤ 9 → x < 128 → (i = 9 → x ≤ 1) → acc + 128 ^ i * x < 2 ^ 64 := by
      intro x h1 h2 h3 h4
      rcases Nat.lt_or_ge i 9 with h9 | h9
      · have : 128 ^ (i + 1) ≤ 128 ^ 9 := Nat.pow_le_pow_right (by omega) h9
        have : 128 ^ i * x ≤ 128 ^ i * 127 := Nat.mul_le_mul_left _ (by omega)
        omega
      · have : i = 9 := by omega
        subst this
        have := h4 rfl
        have : 128 ^ 9 * x ≤ 128 ^ 9 * 1 := Nat.mul_le_mul_left _ this
        omega
    rw [scan] at h ⊢
    by_cases h9 : i = 9 ∧ 1 < c
    · rw [if_pos h9] at h; simp at h
    · rw [if_neg h9] at h ⊢
      by_cases hc : 128 ≤ c
      · rw [if_pos hc] at h ⊢
        have hi8 : i ≤ 8 := by omega
        have hmul : c % 128 * 128 ^ i ≤ 127 * 128 ^ i := Nat.mul_le_mul_right _ (by omega)
        obtain ⟨m, h1, h2, h3, h4, h5⟩ := scan_some r (i + 1) (acc + c % 128 * 128 ^ i) (fun x hx => hl x (List.mem_cons_of_mem _ hx)) (by rw [hp]; omega) (by omega) h
        have hm0 : m ≠ 0 := by rcases h2 with h2 | h2 <;> omega
        have hcc := hl c (List.mem_cons_self ..)
        have hn : numL (c % 128 + 128 * m) = c :: numL m := by
          rw [numL_big (by omega), show (c % 128 + 128 * m) % 128 + 128 = c from by omega, show (c % 128 + 128 * m) / 128 = m from by omega]
        have he : acc + 128 ^ i * (c % 128 + 128 * m) = acc + c % 128 * 128 ^ i + 128 ^ (i + 1) * m := by
          rw [hp, Nat.mul_add, Nat.mul_comm (128 ^ i) (c % 128), ← Nat.mul_assoc, Nat.mul_comm (128 ^ i) 128]; omega
        refine ⟨c % 128 + 128 * m, by rw [hn]; exact List.cons_prefix_cons.2 ⟨rfl, h1⟩, .inl (by omega), by rw [he]; exact h3, by rw [h4, hn]; simp; omega, by rw [he]; exact h5⟩
      · rw [if_neg hc] at h ⊢
        by_cases h0 : c = 0 ∧ 0 < i
        · rw [if_pos h0] at h; simp at h
        · rw [if_neg h0]
          refine ⟨c, by rw [numL_small (by omega)]; exact ⟨r, rfl⟩, by omega, by simp [Nat.mul_comm], by rw [numL_small (by omega)]; simp, h64 c ha hi (by omega) (by omega)⟩

theorem scan_zero : ∀ (l : List Nat) (i acc : Nat), (scan i acc l).2 = 0 → (scan i acc l).1 = 0
  | [], _, _, _ => by simp [scan]
  | c :: r, i, acc, h => by
    rw [scan] at h ⊢
    split
    · rfl
    · rename_i h9
      rw [if_neg h9] at h
      split
      · rename_i hc; rw [if_pos hc] at h; exact scan_zero r _ _ h
      · rename_i hc
        rw [if_neg hc] at h
        split
        · rfl
        · rename_i h0; rw [if_neg h0] at h; simp at h

/-- The number with which l begins, and how many bytes it takes; 0 and 0, if there is none. -/
def rd (l : List Nat) : Nat × Nat := scan 0 0 l
theorem rd_yes {l : List Nat} {n : Nat} (h : numL n <+: l) (hn : W64 n) : rd l = (n, (numL n).length) := by
  have := scan_yes l 0 0 n h (.inr rfl) (by simp) (by unfold W64 at hn; simpa using hn)
  simpa [rd] using this
theorem rd_some {l : List Nat} (hl : ∀ x ∈ l, x < 256) (h : (rd l).2 ≠ 0) : numL (rd l).1 <+: l ∧ (rd l).2 = (numL (rd l).1).length ∧ W64 (rd l).1 := by
  obtain ⟨m, h1, _, h3, h4, h5⟩ := scan_some l 0 0 hl (by simp) (by omega) h
  have e : (rd l).1 = m := by simpa [rd] using h3
  rw [e]
  exact ⟨h1, by simpa [rd] using h4, by unfold W64; simpa using h5⟩
theorem rd_zero {l : List Nat} (h : (rd l).2 = 0) : (rd l).1 = 0 := scan_zero l 0 0 h
theorem rd_le (l : List Nat) (hl : ∀ x ∈ l, x < 256) : (rd l).2 ≤ l.length := by
  by_cases h : (rd l).2 = 0
  · omega
  · obtain ⟨h1, h2, _⟩ := rd_some hl h
    rw [h2]; exact h1.length_le
end Go.Proofs.Ytgbhbifdfcfamaa
namespace Go.Proofs.Ytgbhbifdfcfamaa
set_option maxRecDepth 100000
open Go.RowKit

theorem wrapU64 (n : Nat) (h : n < 18446744073709551616) : IntKind.u64.wrap (n : Int) = (n : Int) := by
  simp [IntKind.wrap, IntKind.bits, IntKind.signed]; omega

theorem orshl (acc k c : Nat) (h : acc < 128 ^ k) (hk : k ≤ 9) (hc : k = 9 → c % 128 ≤ 1) :
    bits .or .u64 (acc : Int) (IntKind.u64.wrap ((c : Int) % 128 * 2 ^ (7 * k))) = ((acc + c % 128 * 128 ^ k : Nat) : Int) := by
  have hp : (2 : Nat) ^ (7 * k) = 128 ^ k := by rw [Nat.pow_mul]
  have hlt : acc + c % 128 * 128 ^ k < 18446744073709551616 := by
    rcases Nat.lt_or_ge k 9 with h9 | h9
    · have h1 : 128 ^ (k + 1) ≤ 128 ^ 9 := Nat.pow_le_pow_right (by omega) h9
      have h2 : c % 128 * 128 ^ k ≤ 127 * 128 ^ k := Nat.mul_le_mul_right _ (by omega)
      rw [Nat.pow_succ] at h1; omega
    · have : k = 9 := by omega
      subst this
      have h2 : c % 128 * 128 ^ 9 ≤ 1 * 128 ^ 9 := Nat.mul_le_mul_right _ (hc rfl)
      omega
  have hx : ((c : Int) % 128 * 2 ^ (7 * k)) = ((c % 128 * 128 ^ k : Nat) : Int) := by rw [← hp]; push_cast; rfl
  rw [hx, wrapU64 _ (by omega)]
  rw [u64_or_nat _ _ (by omega) (by omega), Nat.or_comm, nat_join (7 * k) _ _ (by rw [hp, Nat.mul_mod_left]) (by rw [hp]; exact h), Nat.add_comm]

theorem pow_step (acc k c : Nat) (h : acc < 128 ^ k) : acc + c % 128 * 128 ^ k < 128 ^ (k + 1) := by
  have : c % 128 * 128 ^ k ≤ 127 * 128 ^ k := Nat.mul_le_mul_right _ (by omega)
  rw [Nat.pow_succ]; omega

set_option maxRecDepth 100000 in
set_option maxHeartbeats 400000 in
theorem findNum_any (v : Value) (l : List Nat) (w : World) (hl : ∀ x ∈ l, x < 256) (h : Byt w v l) :
    Calls Try.prog 57 #[v] w fun e w' => e = .returned (.tuple #[.int .u64 (rd l).1, .int .i64 (rd l).2]) ∧ w = w' := by
  have hlm := h.len_le
  unfold maxLen at hlm
  obtain ⟨A, c, rfl, hc1, hc2, hc⟩ := h
  rw [u8s_length] at *
  have Hc : Hid (∀ k u, (u8s l)[k]? = some u → ∃ ad : Addr, A = some ad ∧ w.cell? (ad.add k) = some u) := hc
  clear hc
  go_enter Try.func57, Try.ntmps57
  go_wp2
  go_loop [2, 8] (fun n i => ∃ (k acc : Nat), n = .int .u64 acc ∧ i = .int .i64 k ∧ k ≤ l.length ∧ k ≤ 9 ∧ Hid (acc < 128 ^ k) ∧ Hid (rd l = scan k acc (l.drop k)))
    (fun _ i => l.length - (intOf i).toNat)
  case atStart => exact ⟨0, 0, rfl, rfl, by omega, by omega, by simp [Hid], rfl⟩
  case round =>
    obtain ⟨k, acc, rfl, rfl, hk, hk9, hacc, hrd⟩ := hrel
    by_cases hlt : k < l.length
    · obtain ⟨ad, rfl, hcell⟩ := Hc.out k (.int .u8 (l[k] : Nat)) (by simp [u8s, hlt])
      have hb := hl l[k] (List.getElem_mem hlt)
      have hdrop : Hid (l.drop k = l[k] :: l.drop (k + 1)) := List.drop_eq_getElem_cons hlt
      by_cases h9 : k = 9 ∧ 1 < l[k]
      · obtain ⟨h9, h1⟩ := h9
        have H9 : Hid (k = 9) := h9
        have hb9 : ((k : Int) == 9) = true := by simp [h9]
        clear h9
        go_wp2
        go_ret2
        have := hrd.out; rw [hdrop.out, scan, if_pos ⟨H9.out, h1⟩] at this
        rw [this]; exact ⟨rfl, rfl⟩
      · by_cases h128 : 128 ≤ l[k]
        · have hb9 : ((k : Int) == 9) = false := by
            rw [beq_eq_false_iff_ne]; intro e; exact h9 ⟨by omega, by omega⟩
          have hne : Hid (k ≠ 9) := fun e => h9 ⟨by omega, by omega⟩
          clear h9
          go_wp2
          refine ⟨⟨k + 1, acc + l[k] % 128 * 128 ^ k, ?_, by go_num, by omega, by have := hne.out; omega, ?_, ?_⟩, by simp [intOf]; omega⟩
          · rw [orshl acc k l[k] hacc.out hk9 (fun e => absurd e hne.out)]
          · exact pow_step acc k l[k] hacc.out
          · have := hrd.out; rw [hdrop.out, scan, if_neg (fun e => hne.out e.1), if_pos h128] at this; exact this
        · by_cases h0 : l[k] = 0 ∧ 0 < k
          · obtain ⟨h0, h1⟩ := h0
            have hb9 : (decide (1 < (l[k] : Int))) = false := by simp; omega
            have hb0 : ((l[k] : Int) == 0) = true := by simp [h0]
            have hk0 : (decide (0 < (k : Int))) = true := by simp; omega
            have H0 : Hid (l[k] = 0) := h0
            clear h9 h0
            go_wp2
            all_goals
              go_ret2
              have := hrd.out; rw [hdrop.out, scan, if_neg (by rw [H0.out]; omega), if_neg h128, if_pos ⟨H0.out, h1⟩] at this
              rw [this]; exact ⟨rfl, rfl⟩
          · have hfin : Hid (rd l = (acc + l[k] * 128 ^ k, k + 1)) := by
              have := hrd.out; rw [hdrop.out, scan, if_neg h9, if_neg h128, if_neg h0] at this; exact this
            have hor : bits .or .u64 (acc : Int) (IntKind.u64.wrap ((l[k] : Int) % 128 * 2 ^ (7 * k))) = ((acc + l[k] * 128 ^ k : Nat) : Int) := by
              rw [orshl acc k l[k] hacc.out hk9 (by intro e; have : ¬ 1 < l[k] := fun h => h9 ⟨e, h⟩; omega), Nat.mod_eq_of_lt (by omega)]
            have Hor : Hid (bits .or .u64 (acc : Int) (IntKind.u64.wrap ((l[k] : Int) % 128 * 2 ^ (7 * k))) = ((acc + l[k] * 128 ^ k : Nat) : Int)) := hor
            have hc1 : ((l[k] : Int) ≥ 128) = False := by simp; omega
            by_cases e9 : k = 9
            · have hb9 : ((k : Int) == 9) = true := by simp [e9]
              have hd1 : (decide (1 < (l[k] : Int))) = false := by simp; omega
              have hb0 : ((l[k] : Int) == 0) = false := by rw [beq_eq_false_iff_ne]; intro e; exact h0 ⟨by omega, by omega⟩
              clear h9 h0 hc1 e9 hor
              go_wp2
              all_goals
                go_ret2
                rw [Hor.out, hfin.out]; exact ⟨rfl, rfl⟩
            · have hb9 : ((k : Int) == 9) = false := by rw [beq_eq_false_iff_ne]; omega
              by_cases ec : l[k] = 0
              · have hb0 : ((l[k] : Int) == 0) = true := by simp [ec]
                have hk0 : (decide (0 < (k : Int))) = false := by simp; omega
                have hk1 : (decide (0 < k)) = false := by simp; omega
                clear h9 h0 hc1 e9 hor ec
                go_wp2
                all_goals
                  go_ret2
                  rw [Hor.out, hfin.out]; exact ⟨rfl, rfl⟩
              · have hb0 : ((l[k] : Int) == 0) = false := by rw [beq_eq_false_iff_ne]; omega
                clear h9 h0 hc1 e9 hor ec
                go_wp2
                all_goals
                  go_ret2
                  rw [Hor.out, hfin.out]; exact ⟨rfl, rfl⟩
    · go_wp2
      go_ret2
      have := hrd.out; rw [List.drop_eq_nil_of_le (by omega), scan] at this
      rw [this]; exact ⟨rfl, rfl⟩
end Go.Proofs.Ytgbhbifdfcfamaa
namespace Go.Proofs.Ytgbhbifdfcfamaa
set_option maxRecDepth 100000
open Go.RowKit

set_option maxRecDepth 100000 in
set_option maxHeartbeats 400000 in
theorem Clone_any (v : Value) (l : List Nat) (w : World) (h : Byt w v l) (hl : l.length ≤ 140737488355328) :
    Calls Try.prog 58 #[v] w fun e w' => ∃ v', e = .returned v' ∧ OwnB w.heap.size w' v' l ∧ Ext w w' := by
  refine calls_keep ?_
  go_enter Try.func58, Try.ntmps58
  go_wp2_with (first
    | (refine b_isnil (.tmp 3) 0 0 rfl rfl (v := v) rfl h ?_; intro b hb; cases b)
    | (at_builtin; refine appb (.tmp 5) (.tmp 6) rfl rfl rfl rfl own_empty (h.ext ((Ext.refl _).alloc _)) (by simpa using hl) (by simp) ?_; intro v1 w1 ho1 hb1 hg1))
  · go_ret
    exact Keep.intro ⟨_, rfl, ho1, ((Ext.refl w).alloc _).below (Nat.le_refl _) |>.trans (hb1.mono (Nat.le_refl _))⟩
  · obtain rfl := hb trivial
    go_ret
    exact Keep.intro ⟨_, rfl, OwnB.nil _ _, Ext.refl _⟩

/-- The rest behind the number, and the error. -/
def rdRest (l : List Nat) : List Nat := if (rd l).2 = 0 then [] else l.drop (rd l).2
def rdErr (l : List Nat) : Nat := if (rd l).2 = 0 then 11 else 0
end Go.Proofs.Ytgbhbifdfcfamaa
namespace Go.Proofs.Ytgbhbifdfcfamaa
set_option maxRecDepth 100000
open Go.RowKit

theorem cloneR {v : Value} {l : List Nat} {w : World} (h : Byt w v l) (hl : l.length ≤ 140737488355328) :
    Calls Try.prog 58 #[v] w fun e w' => ∃ v', e = .returned v' ∧ Ext w w' ∧ Sp.p (.sl (u8s l)) v' w' :=
  (Clone_any v l w h hl).mono fun _ _ ⟨v', he, ho, hx⟩ => ⟨v', he, hx, ho.byt⟩

theorem cloneO {v : Value} {l : List Nat} {w : World} {lo : Nat} (hlo : lo ≤ w.heap.size) (h : Byt w v l) (hl : l.length ≤ 140737488355328) :
    Calls Try.prog 58 #[v] w fun e w' => ∃ v', e = .returned v' ∧ Ext w w' ∧ Sp.p (.nb lo l) v' w' :=
  (Clone_any v l w h hl).mono fun _ _ ⟨v', he, ho, hx⟩ => ⟨v', he, hx, (ho.nb).mono hlo⟩

/-- A text as bytes, and the error. -/
def txL (l : List Nat) : List Nat := if 4096 < l.length then [] else numL l.length ++ l
def txErr (l : List Nat) : Nat := if 4096 < l.length then 11 else 0

theorem W64_of {n : Nat} (h : n ≤ 9223372036854775807) : W64 n := by unfold W64; omega

def RtOk (l : List Nat) : Prop := (rd l).2 ≠ 0 ∧ (rd l).1 ≤ 4096 ∧ (rd l).2 + (rd l).1 ≤ l.length
instance (l : List Nat) : Decidable (RtOk l) := by unfold RtOk; exact inferInstance
/-- The text with which bytes begin, what is behind it, the error. -/
def rtL (l : List Nat) : List Nat := if RtOk l then (l.take ((rd l).2 + (rd l).1)).drop (rd l).2 else []
def rtRest (l : List Nat) : List Nat := if RtOk l then l.drop ((rd l).2 + (rd l).1) else []
def rtErr (l : List Nat) : Nat := if RtOk l then 0 else 11

end Go.Proofs.Ytgbhbifdfcfamaa
namespace Go.Proofs.Ytgbhbifdfcfamaa
set_option maxRecDepth 100000
open Go.RowKit

def I64s (l : List Int) : Prop := ∀ x ∈ l, -9223372036854775808 ≤ x ∧ x ≤ 9223372036854775807
def i64s (l : List Int) : List Value := l.map (Value.int .i64)
theorem i64s_length (l : List Int) : (i64s l).length = l.length := by simp [i64s]
theorem i64s_append (l m : List Int) : i64s (l ++ m) = i64s l ++ i64s m := by simp [i64s]
theorem i64s_one (l : List Int) : ∀ u ∈ i64s l, u.oneCell' = true := by
  intro u hu; simp only [i64s, List.mem_map] at hu; obtain ⟨n, _, rfl⟩ := hu; rfl
theorem i64s_cells (l : List Int) : ∀ u ∈ i64s l, u.cells = #[u] := by
  intro u hu; simp only [i64s, List.mem_map] at hu; obtain ⟨n, _, rfl⟩ := hu; rfl
def Ints (w : World) (v : Value) (l : List Int) : Prop := Sl w v (i64s l)
def OwnI (base : Nat) (w : World) (v : Value) (l : List Int) : Prop := w.ownsRow base 3 1 v (i64s l).length (i64s l)
theorem Ints.ext {w w' : World} {v : Value} {l : List Int} (h : Ints w v l) (he : Ext w w') : Ints w' v l := Sl.ext h he
theorem Ints.nil (w : World) : Ints w (.slice none 0 0) [] := Sl.nil w
theorem OwnI.ints {base : Nat} {w : World} {v : Value} {l : List Int} (h : OwnI base w v l) : Ints w v l := Sl.of_own h
theorem OwnI.ext {base : Nat} {w w' : World} {v : Value} {l : List Int} (h : OwnI base w v l) (he : Ext w w') : OwnI base w' v l := own_ext h he
theorem OwnI.nil (base : Nat) (w : World) : OwnI base w (.slice none 0 0) [] := own_nil w base _
theorem OwnI.mono {base B : Nat} {w : World} {v : Value} {l : List Int} (h : OwnI base w v l) (hB : B ≤ base) : OwnI B w v l := own_mono h hB
theorem Ints.len_le {w : World} {v : Value} {l : List Int} (h : Ints w v l) : l.length ≤ maxLen := by have := Sl.len_le h; rwa [i64s_length] at this

theorem Try.infoInt : (Try.prog.info? 3).map (fun i => (i.zero, i.size, i.bytes)) = some (some (.int .i64 0), 1, 8) := by kernel_rfl
theorem Try.elI : El Try.prog 24 3 (.int .i64 0) 8 := by
  obtain ⟨i0, hi, hz0, hz1, hz2⟩ := info_parts Try.infoInt
  exact ⟨Try.underlying24, ⟨i0, hi, hz0, hz1, hz2⟩, rfl, by omega⟩

theorem int_one {w : World} {z : Int} : Ints (w.alloc (.cells #[.int .i64 z] 3)) (.slice (some ⟨w.heap.size, 0, none⟩) 1 1) [z] := by
  refine ⟨some ⟨w.heap.size, 0, none⟩, 1, rfl, by simp [i64s], by simp [maxLen], fun k u hk => ⟨_, rfl, ?_⟩⟩
  cases k with
  | zero =>
    have : u = .int .i64 z := by simpa [i64s] using hk.symm
    subst this
    simp [Addr.add, World.cell?_alloc_at]
  | succ k => simp [i64s] at hk
theorem int_empty {w : World} : OwnI w.heap.size (w.alloc (.cells #[] 3)) (.slice (some ⟨w.heap.size, 0, none⟩) 0 0) [] :=
  World.ownsRow_made (base := w.heap.size) w #[] 0 (Nat.le_refl _) (by simp [maxLen]) (by simp)

theorem run_appi {w : World} {base : Nat} {v s : Value} {xs ys : List Int} (ty : TypeId) (hown : OwnI base w v xs) (hs : Ints w s ys) (hlen : (xs.length + ys.length) * 8 ≤ 140737488355328) (hb : base ≤ w.heap.size) :
    ∃ v' w', (Builtin.append_ #[24, 24] ty #[v, s]).run Try.prog w = .ok v' w' ∧ OwnI base w' v' (xs ++ ys) ∧ Below base w w' ∧ w.grownBy w' v.ownBlock ∧ (v'.ownBlock = v.ownBlock ∨ v'.ownBlock = some w.heap.size) := by
  obtain ⟨i0, hi, hz0, hz1, hz2⟩ := info_parts Try.infoInt
  obtain ⟨v', w', h1, h2, h3, h4⟩ := run_append_sl (P := Try.prog) w base 24 ty 3 i0 _ 8 Try.underlying24 hi hz0 hz1 hz2 rfl hown hs (i64s_one ys) (by simp only [i64s_length]; omega) (by omega) hb
  refine ⟨v', w', h1, ?_, below_grown hb hown h3, h3, h4⟩
  unfold OwnI; rw [i64s_append]; exact h2
theorem appi {ops : Array Oper} {rest : List Oper} {o : Oper} {a : Act} {Q : Exit → Act → World → Prop} {w : World} (s x : Operand) (hgd : o.guard = none)
    (ho : o.op = .call { callee := .builtin .append, args := #[s, x], argTypes := #[24, 24] }) {base : Nat} {v sv : Value} {xs ys : List Int} (hv : a.eval s = v) (hx : a.eval x = sv)
    (hown : OwnI base w v xs) (hs : Ints w sv ys) (hlen : (xs.length + ys.length) * 8 ≤ 140737488355328) (hb : base ≤ w.heap.size)
    (h : ∀ v' w', OwnI base w' v' (xs ++ ys) → Below base w w' → w.grownBy w' v.ownBlock → (v'.ownBlock = v.ownBlock ∨ v'.ownBlock = some w.heap.size) → wpList Try.prog ops Q rest (a.put o.dst v') w') : wpList Try.prog ops Q (o :: rest) a w := by
  refine wpList_plain hgd fun K hK => ?_
  obtain ⟨v', w', hr, h2, h3, h4, h5⟩ := run_appi o.type hown hs hlen hb
  unfold Oper.wp execOp
  simp only [ho, resolve, invoke, builtin, Sem.run_bind, Sem.run_pure, Result.andThen_ok, List.map_toArray, List.map_cons, List.map_nil, hv, hx, hr]
  exact hK _ _ (h v' w' h2 h3 h4 h5)

section
variable {ops : Array Oper} {rest : List Oper} {o : Oper} {a : Act} {Q : Exit → Act → World → Prop} {w : World} {v : Value} {l : List Int}
theorem i_len (x : Operand) (hgd : o.guard = none) (ho : o.op = .call { callee := .builtin .len, args := #[x], argTypes := #[24] }) (hv : a.eval x = v) (h : Ints w v l)
    (k : wpList Try.prog ops Q rest (a.put o.dst (.int .i64 l.length)) w) : wpList Try.prog ops Q (o :: rest) a w :=
  w_len Try.elI x hgd ho hv h (by rw [i64s_length]; exact k)
theorem i_idx (x y : Operand) (i : Nat) (hgd : o.guard = none) (ho : o.op = .indexAddr 24 x y) (hv : a.eval x = v) (h : Ints w v l) (hy : a.eval y = .int .i64 i) (hi : i < l.length)
    (k : ∀ ad : Addr, w.cell? ad = some (.int .i64 l[i]) → wpList Try.prog ops Q rest (a.put o.dst (.pointer (some ad))) w) : wpList Try.prog ops Q (o :: rest) a w :=
  w_idx Try.elI x y i hgd ho hv h hy (by rw [i64s_length]; exact hi) fun ad hc => k ad (by rw [hc]; simp [i64s])
end

theorem rptri {o : Oper} {ρ : Operand → Value} {w : World} {v : Value} {l : List Int} (x y : Operand) (ho : o.op = .indexAddr 24 x y) (hv : ρ x = v) (h : Ints w v l) (i : Nat) (hy : ρ y = .int .i64 i) (hi : i < l.length) {u : Int} (hu : l[i] = u) :
    ∃ v', Runs Try.prog o ρ w v' ∧ (Sp.ptr (.int .i64 u)).p v' w := by
  subst hu
  obtain ⟨ad, h1, h2⟩ := runs_idx Try.elI x y ho hv h i hy (by rw [i64s_length]; exact hi)
  exact ⟨_, h1, ad, rfl, by rw [h2]; simp [i64s]⟩
end Go.Proofs.Ytgbhbifdfcfamaa
