/- The contracts of the document's own answers: neaptideref01.Num and ReadNum. · Lists of numbers as bytes. · The contracts of wire.Nums and neaptideref01.Nums: numbers as bytes, one behind the other. · The contracts of wire.ReadNums and neaptideref01.ReadNums: so many numbers of any bytes. -/
import Derived.Test.YtgbhbifdfcfamaaFD
import Derived.Test.YtgbhbifdfcfamaaFC
namespace Go.Proofs.Ytgbhbifdfcfamaa
set_option maxRecDepth 100000
open Go.RowKit

set_option maxRecDepth 100000 in
set_option maxHeartbeats 400000 in
theorem refNum_any (x : Nat) (w : World) (hx : W64 x) :
    Calls Try.prog 39 #[.int .u64 x] w fun e w' => ∃ v', e = .returned v' ∧ OwnB w.heap.size w' v' (numL x) ∧ Ext w w' := by
  refine calls_keep ?_
  have hx10 := numL_len10 hx
  have HX := hide_ hx
  clear hx
  go_enter Try.func39, Try.ntmps39
  go_wp2
  go_loopw [0, 3] (fun n v' wr => ∃ (ys : List Nat) (m : Nat), n = .int .u64 m ∧ OwnB w.heap.size wr v' ys ∧ Hid (ys ++ numL m = numL x) ∧ Ext w wr ∧ ys.length ≤ 10 ∧ W64 m)
    (fun n _ _ => (intOf n).toNat)
  case atStart => exact ⟨[], x, rfl, own_empty, rfl, (Ext.refl _).alloc _, by simp, HX.out⟩
  case round =>
    obtain ⟨ys, m, rfl, ho, heq, hbw, hyl, hm64⟩ := hrel
    have hq64 : IntKind.u64.wrap ((m : Int) / 128) = (m : Int) / 128 := by
      have := wrapU64 (m / 128) (by unfold W64 at hm64; omega)
      simpa using this
    have hs := hbw.size
    have hbytes : ys.length + 1 ≤ 140737488355328 := by omega
    by_cases h128 : 128 ≤ m
    · have hz : ((m : Int) / 128 == 0) = false := by rw [beq_eq_false_iff_ne]; omega
      have hw8 : IntKind.u8.wrap ((m : Int) % 128 + 128) = (m : Int) % 128 + 128 := by simp [IntKind.wrap, IntKind.bits, IntKind.signed]; omega
      go_wp2_with (at_builtin; refine appb (.tmp 17) (.tmp 20) rfl rfl rfl rfl (ho.ext ((Ext.refl _).alloc _)) (byt_one (n := m % 128 + 128) (by omega)) hbytes (by simp; omega) ?_; intro v1 w1 ho1 hb1 hg1)
      go_roundw
      case rel =>
        refine ⟨ys ++ [m % 128 + 128], m / 128, by go_num, ho1, ?_, (show Below _ _ _ from hbw).trans ((((Below.refl _ _).alloc (by omega) _)).trans hb1), ?_, by unfold W64 at hm64 ⊢; omega⟩
        · have := heq.out; rw [numL_big h128] at this; unfold Hid; rw [← this]; simp
        · have := heq.out; rw [numL_big h128] at this; have := congrArg List.length this; simp at this ⊢; omega
      case measure => simp [intOf]; omega
    · have hz : ((m : Int) / 128 == 0) = true := by rw [beq_iff_eq]; omega
      go_wp2_with (at_builtin; refine appb (.tmp 13) (.tmp 15) rfl rfl rfl rfl (ho.ext ((Ext.refl _).alloc _)) (byt_one (n := m) (by omega)) hbytes (by simp; omega) ?_; intro v1 w1 ho1 hb1 hg1)
      go_ret
      refine Keep.intro ⟨v1, rfl, ?_, (show Below _ _ _ from hbw).trans ((((Below.refl _ _).alloc (by omega) _)).trans hb1)⟩
      have := heq.out; rw [numL_small (by omega)] at this; rw [← this]; exact ho1

theorem scan_nil_of {l : List Nat} {k acc : Nat} (h : rd l = scan k acc (l.drop k)) (hk : l.length ≤ k) : rd l = (0, 0) := by
  rw [h, List.drop_eq_nil_of_le hk, scan]

set_option maxRecDepth 100000 in
set_option maxHeartbeats 1600000 in
theorem refReadNum_own (v : Value) (l : List Nat) (w : World) (hl : ∀ x ∈ l, x < 256) (h : Byt w v l) (hlen : l.length ≤ 140737488355328) :
    Calls Try.prog 29 #[v] w fun e w' => ∃ v', e = .returned (.tuple #[.int .u64 (rd l).1, v', .int .i64 (rdErr l)]) ∧ OwnB w.heap.size w' v' (rdRest l) ∧ Ext w w' := by
  refine calls_keep ?_
  have no : rd l = (0, 0) → ∀ e w', e = .returned (.tuple #[.int .u64 0, .slice none 0 0, .int .i64 11]) → Ext w w' → Keep (fun e w' => ∃ v', e = .returned (.tuple #[.int .u64 (rd l).1, v', .int .i64 (rdErr l)]) ∧ OwnB w.heap.size w' v' (rdRest l) ∧ Ext w w') e w' := by
    intro h0 e w' he hx
    exact Keep.intro ⟨.slice none 0 0, by rw [he, rdErr, h0]; rfl, by rw [rdRest, h0]; exact OwnB.nil _ _, hx⟩
  have No := hide_ no
  clear no
  go_enter Try.func29, Try.ntmps29
  go_wp2
  go_loop [5, 6, 7] (fun n pl i => ∃ (k acc p : Nat), n = .int .u64 acc ∧ pl = .int .u64 p ∧ i = .int .i64 k ∧ k ≤ l.length ∧ k ≤ 10 ∧ Hid (acc < 128 ^ k) ∧ Hid (k ≤ 9 → p = 128 ^ k ∧ rd l = scan k acc (l.drop k)) ∧ Hid (k = 10 → rd l = (0, 0)))
    (fun _ _ i => l.length - (intOf i).toNat)
  case atStart => exact ⟨0, 0, 1, rfl, rfl, rfl, by omega, by omega, by simp [Hid], fun _ => ⟨rfl, rfl⟩, fun e => by omega⟩
  case round =>
    obtain ⟨k, acc, p, rfl, rfl, rfl, hk, hk10, hacc, hrd, hend⟩ := hrel
    by_cases hin : k < l.length ∧ k < 10
    · obtain ⟨hlt, h10⟩ := hin
      have hb := hl l[k] (List.getElem_mem hlt)
      obtain ⟨hp, hsc⟩ := hrd.out (by omega)
      rw [List.drop_eq_getElem_cons hlt] at hsc
      have Hsc := hide_ hsc
      have Hp := hide_ hp
      clear hsc hp
      obtain ⟨c, hc⟩ : ∃ c, l[k] = c := ⟨_, rfl⟩
      have t1 : (decide (k < l.length)) = true := by simpa using hlt
      by_cases h9 : k = 9 ∧ 1 < c % 128
      · have t9 : ((k : Int) == 9) = true := by simp [h9.1]
        have t2 : (decide (1 < (c : Int) % 128)) = true := by simp; omega
        have hz : rd l = (0, 0) := by rw [Hsc.out, scan, if_pos]; rw [hc]; exact ⟨h9.1, by omega⟩
        have Hz := hide_ hz
        clear hz h9
        go_wp2_with (first
          | (refine b_len _ rfl rfl rfl h ?_)
          | (refine b_idx _ _ k rfl rfl (v := v) rfl h rfl hlt ?_; intro ad had; rw [hc] at had))
        go_ret3
        exact No.out Hz.out _ _ rfl (Ext.refl _)
      · have h9' : k = 9 → c % 128 ≤ 1 := fun e => by omega
        have hmul : c % 128 * p < 18446744073709551616 ∧ acc + c % 128 * p < 18446744073709551616 := by
          rw [Hp.out]
          rcases Nat.lt_or_ge k 9 with h8 | h8
          · have h1 : 128 ^ (k + 1) ≤ 128 ^ 9 := Nat.pow_le_pow_right (by omega) h8
            have h2 := pow_step acc k c hacc.out
            omega
          · have hk9 : k = 9 := by omega
            have h2 : c % 128 * 128 ^ k ≤ 1 * 128 ^ k := Nat.mul_le_mul_right _ (h9' hk9)
            have h3 := hacc.out
            rw [hk9] at h2 h3 ⊢
            omega
        have w1 : IntKind.u64.wrap ((c : Int) % 128 * (p : Int)) = ((c % 128 * p : Nat) : Int) := by
          rw [show ((c : Int) % 128 * (p : Int)) = ((c % 128 * p : Nat) : Int) from by push_cast; rfl]
          exact wrapU64 _ hmul.1
        obtain ⟨q, hq⟩ : ∃ q : Nat, c % 128 * p = q := ⟨_, rfl⟩
        rw [hq] at w1 hmul
        have w2 : IntKind.u64.wrap ((acc : Int) + (q : Int)) = (acc : Int) + (q : Int) := by
          rw [show ((acc : Int) + (q : Int)) = ((acc + q : Nat) : Int) from by push_cast; rfl]
          exact wrapU64 _ hmul.2
        obtain ⟨p', hp'⟩ : ∃ p' : Nat, IntKind.u64.wrap ((p : Int) * 128) = (p' : Int) ∧ (k < 9 → p' = 128 ^ (k + 1)) := by
          refine ⟨(p * 128) % 18446744073709551616, ?_, fun hk9 => ?_⟩
          · simp [IntKind.wrap, IntKind.bits, IntKind.signed]
          · rw [Hp.out, ← Nat.pow_succ]
            have h1 : 128 ^ (k + 1) ≤ 128 ^ 9 := Nat.pow_le_pow_right (by omega) (by omega)
            exact Nat.mod_eq_of_lt (Nat.lt_of_le_of_lt h1 (by decide))
        obtain ⟨w3, hpn⟩ := hp'
        have Hpn := hide_ hpn
        have HQ := hide_ hq
        have HM := hide_ hmul
        clear hpn hq hmul
        by_cases h128 : 128 ≤ c
        · have t3 : (decide ((c : Int) < 128)) = false := by simp; omega
          have hround : ∃ (k' acc' p'' : Nat), Value.int .u64 ((acc : Int) + (q : Int)) = .int .u64 acc' ∧ Value.int .u64 (p' : Int) = .int .u64 p'' ∧ Value.int .i64 ((k : Int) + 1) = .int .i64 k' ∧ k' ≤ l.length ∧ k' ≤ 10 ∧ Hid (acc' < 128 ^ k') ∧ Hid (k' ≤ 9 → p'' = 128 ^ k' ∧ rd l = scan k' acc' (l.drop k')) ∧ Hid (k' = 10 → rd l = (0, 0)) := by
            refine ⟨k + 1, acc + q, p', by go_num, rfl, by go_num, by omega, by omega, ?_, ?_, ?_⟩
            · have := pow_step acc k c hacc.out
              rw [← HQ.out, Hp.out]; exact this
            · intro hk9
              refine ⟨Hpn.out (by omega), ?_⟩
              rw [Hsc.out, scan, hc, if_neg (by omega), if_pos h128, ← HQ.out, Hp.out]
            · intro hk9
              rw [Hsc.out, scan, hc, if_pos (by omega)]
          have HR := hide_ hround
          clear hround
          by_cases e9 : k = 9
          · have t9 : ((k : Int) == 9) = true := by simp [e9]
            have t2 : (decide (1 < (c : Int) % 128)) = false := by have := h9' e9; simp; omega
            clear h9 h9' e9
            go_wp2_with (first
              | (refine b_len _ rfl rfl rfl h ?_)
              | (refine b_idx _ _ k rfl rfl (v := v) rfl h rfl hlt ?_; intro ad had; rw [hc] at had))
            refine ⟨?_, by simp [intOf]; omega⟩
            obtain ⟨k', acc', p'', e1, e2, e3, r⟩ := HR.out
            exact ⟨k', acc', p'', e1, e2, e3, r⟩
          · have t9 : ((k : Int) == 9) = false := by rw [beq_eq_false_iff_ne]; omega
            clear h9 h9' e9
            go_wp2_with (first
              | (refine b_len _ rfl rfl rfl h ?_)
              | (refine b_idx _ _ k rfl rfl (v := v) rfl h rfl hlt ?_; intro ad had; rw [hc] at had))
            refine ⟨?_, by simp [intOf]; omega⟩
            obtain ⟨k', acc', p'', e1, e2, e3, r⟩ := HR.out
            exact ⟨k', acc', p'', e1, e2, e3, r⟩
        · have t3 : (decide ((c : Int) < 128)) = true := by simp; omega
          have hc128 : c % 128 = c := by omega
          have hq' : acc + q = acc + c * 128 ^ k := by rw [← HQ.out, Hp.out, hc128]
          by_cases h0 : c = 0 ∧ 0 < k
          · have hz : rd l = (0, 0) := by rw [Hsc.out, scan, hc, if_neg (by omega), if_neg h128, if_pos h0]
            have Hz := hide_ hz
            have hlen2 : (numL (acc + q)).length ≤ k := by
              have := numL_len (k - 1) (acc + q) (by rw [show k - 1 + 1 = k from by omega, hq', h0.1]; have := hacc.out; omega)
              omega
            have tn : (((numL (acc + q)).length : Int) != (k : Int) + 1) = true := by rw [bne_iff_ne]; omega
            have hq64 : W64 (acc + q) := HM.out.2
            clear hz hlen2
            by_cases e9 : k = 9
            · have t9 : ((k : Int) == 9) = true := by simp [e9]
              have t2 : (decide (1 < (c : Int) % 128)) = false := by have := h9' e9; simp; omega
              clear h9 h9' e9 h0 hq' hc128
              go_wp2_with (first
                | (go_at_call 39; refine (refNum_any (acc + q) _ hq64).mono ?_; rintro e w4 ⟨v4, rfl, ho4, hx4⟩; have H4 := ho4.byt; have H := h.ext hx4; clear ho4)
                | (refine b_len (.tmp 46) rfl rfl rfl H4 ?_)
                | (refine b_len _ rfl rfl rfl h ?_)
                | (refine b_idx _ _ k rfl rfl (v := v) rfl h rfl hlt ?_; intro ad had; rw [hc] at had))
              go_ret3
              exact No.out Hz.out _ _ rfl hx4
            · have t9 : ((k : Int) == 9) = false := by rw [beq_eq_false_iff_ne]; omega
              clear h9 h9' e9 h0 hq' hc128
              go_wp2_with (first
                | (go_at_call 39; refine (refNum_any (acc + q) _ hq64).mono ?_; rintro e w4 ⟨v4, rfl, ho4, hx4⟩; have H4 := ho4.byt; have H := h.ext hx4; clear ho4)
                | (refine b_len (.tmp 46) rfl rfl rfl H4 ?_)
                | (refine b_len _ rfl rfl rfl h ?_)
                | (refine b_idx _ _ k rfl rfl (v := v) rfl h rfl hlt ?_; intro ad had; rw [hc] at had))
              go_ret3
              exact No.out Hz.out _ _ rfl hx4
          · have hy : rd l = (acc + q, k + 1) := by rw [Hsc.out, scan, hc, if_neg (by omega), if_neg h128, if_neg h0, hq']
            have hlen2 : (numL (acc + q)).length = k + 1 := by
              have h2 := (rd_some hl (by rw [hy]; simp)).2.1
              rw [hy] at h2; exact h2.symm
            have tn : (((numL (acc + q)).length : Int) != (k : Int) + 1) = false := by rw [hlen2]; simp
            have Hy := hide_ hy
            have hq64 : W64 (acc + q) := HM.out.2
            have hk1 : k + 1 ≤ l.length := by omega
            have hb0 : ([] : List Nat).length + (l.drop (k + 1)).length ≤ 140737488355328 := by simp; omega
            clear hy hlen2
            by_cases e9 : k = 9
            · have t9 : ((k : Int) == 9) = true := by simp [e9]
              have t2 : (decide (1 < (c : Int) % 128)) = false := by have := h9' e9; simp; omega
              clear h9 h9' e9 h0 hq' hc128
              go_wp2_with (first
                | (go_at_call 39; refine (refNum_any (acc + q) _ hq64).mono ?_; rintro e w4 ⟨v4, rfl, ho4, hx4⟩; have H4 := ho4.byt; have H := h.ext hx4; clear ho4)
                | (refine b_len (.tmp 46) rfl rfl rfl H4 ?_)
                | (refine b_len _ rfl rfl rfl h ?_)
                | (refine b_idx _ _ k rfl rfl (v := v) rfl h rfl hlt ?_; intro ad had; rw [hc] at had)
                | (refine b_from (.tmp 53) (.tmp 55) (k + 1) rfl rfl (v := v) rfl (H.ext ((Ext.refl _).alloc _)) rfl hk1 ?_; intro v5 H5)
                | (at_builtin; refine appb (.tmp 52) (.tmp 56) rfl rfl rfl rfl own_empty H5 hb0 (by simp) ?_; intro v6 w6 ho6 hb6 hg6; have H6 := ho6.mono hx4.size; have hx6 := ext_alloc_below hb6; clear ho6 hb6 hg6 H5))
              go_ret3
              refine Keep.intro ⟨_, ?_, by rw [rdRest, Hy.out]; exact H6, hx4.trans hx6⟩
              rw [rdErr, Hy.out]; rfl
            · have t9 : ((k : Int) == 9) = false := by rw [beq_eq_false_iff_ne]; omega
              clear h9 h9' e9 h0 hq' hc128
              go_wp2_with (first
                | (go_at_call 39; refine (refNum_any (acc + q) _ hq64).mono ?_; rintro e w4 ⟨v4, rfl, ho4, hx4⟩; have H4 := ho4.byt; have H := h.ext hx4; clear ho4)
                | (refine b_len (.tmp 46) rfl rfl rfl H4 ?_)
                | (refine b_len _ rfl rfl rfl h ?_)
                | (refine b_idx _ _ k rfl rfl (v := v) rfl h rfl hlt ?_; intro ad had; rw [hc] at had)
                | (refine b_from (.tmp 53) (.tmp 55) (k + 1) rfl rfl (v := v) rfl (H.ext ((Ext.refl _).alloc _)) rfl hk1 ?_; intro v5 H5)
                | (at_builtin; refine appb (.tmp 52) (.tmp 56) rfl rfl rfl rfl own_empty H5 hb0 (by simp) ?_; intro v6 w6 ho6 hb6 hg6; have H6 := ho6.mono hx4.size; have hx6 := ext_alloc_below hb6; clear ho6 hb6 hg6 H5))
              go_ret3
              refine Keep.intro ⟨_, ?_, by rw [rdRest, Hy.out]; exact H6, hx4.trans hx6⟩
              rw [rdErr, Hy.out]; rfl
    · have hz : rd l = (0, 0) := by
        by_cases e10 : k = 10
        · exact hend.out e10
        · obtain ⟨-, hsc⟩ := hrd.out (by omega)
          exact scan_nil_of hsc (by omega)
      have Hz := hide_ hz
      clear hz
      by_cases e : k < l.length
      · have t1 : (decide (k < l.length)) = true := by simpa using e
        have t2 : (decide ((k : Int) < 10)) = false := by simp; omega
        clear hin
        go_wp2_with (first
          | (refine b_len _ rfl rfl rfl h ?_))
        go_ret3
        exact No.out Hz.out _ _ rfl (Ext.refl _)
      · have t1 : (decide (k < l.length)) = false := by simpa using e
        clear hin
        go_wp2_with (first
          | (refine b_len _ rfl rfl rfl h ?_))
        go_ret3
        exact No.out Hz.out _ _ rfl (Ext.refl _)

theorem refReadNum_any (v : Value) (l : List Nat) (w : World) (hl : ∀ x ∈ l, x < 256) (h : Byt w v l) (hlen : l.length ≤ 140737488355328) :
    Calls Try.prog 29 #[v] w fun e w' => ∃ v', e = .returned (.tuple #[.int .u64 (rd l).1, v', .int .i64 (rdErr l)]) ∧ Byt w' v' (rdRest l) ∧ Ext w w' :=
  (refReadNum_own v l w hl h hlen).mono fun _ _ ⟨v', he, ho, hx⟩ => ⟨v', he, ho.byt, hx⟩
end Go.Proofs.Ytgbhbifdfcfamaa
namespace Go.Proofs.Ytgbhbifdfcfamaa
set_option maxRecDepth 100000
open Go.RowKit

/-! ### Lists of numbers as bytes -/
def NuOk (l : List Int) : Prop := l.length ≤ 64 ∧ ∀ x ∈ l, -1 ≤ x
def nuL : List Int → List Nat
  | [] => []
  | x :: r => numL (x + 1).toNat ++ nuL r
theorem nuL_append (l m : List Int) : nuL (l ++ m) = nuL l ++ nuL m := by
  induction l with
  | nil => rfl
  | cons x r ih => simp [nuL, ih]
theorem nuL_len : ∀ l : List Int, (∀ x ∈ l, x ≤ 9223372036854775807) → (nuL l).length ≤ 10 * l.length
  | [], _ => by simp [nuL]
  | x :: r, h => by
    have := nuL_len r fun y hy => h y (List.mem_cons_of_mem _ hy)
    have h2 := numL_len10 (n := (x + 1).toNat) (by have := h x (List.mem_cons_self ..); unfold W64; omega)
    simp [nuL]; omega

end Go.Proofs.Ytgbhbifdfcfamaa
namespace Go.Proofs.Ytgbhbifdfcfamaa
set_option maxRecDepth 100000
open Go.RowKit

instance (l : List Int) : Decidable (NuOk l) := by unfold NuOk; exact inferInstance
def nuB (l : List Int) : List Nat := if NuOk l then nuL l else []
def nuErr (l : List Int) : Nat := if NuOk l then 0 else 11

theorem wrapNum (x : Int) (h : -1 ≤ x) (h2 : x ≤ 9223372036854775807) : IntKind.u64.wrap (IntKind.u64.wrap x + 1) = ((x + 1).toNat : Int) := by
  simp [IntKind.wrap, IntKind.bits, IntKind.signed]; omega

theorem take_one (l : List Int) (k : Nat) (h : k < l.length) : l.take (k + 1) = l.take k ++ [l[k]] := by
  rw [List.take_succ_eq_append_getElem h]

theorem nuOk_of {l : List Int} (h : l.length ≤ 64) (h2 : ∀ x ∈ l.take l.length, -1 ≤ x) : NuOk l := ⟨h, by rwa [List.take_length] at h2⟩


set_option maxRecDepth 100000 in
set_option maxHeartbeats 800000 in
theorem Nums_any (v : Value) (l : List Int) (W : World) (hI : I64s l) (h : Ints W v l) :
    Calls Try.prog 77 #[v] W fun e w' => ∃ v', e = .returned (.tuple #[v', .int .i64 (nuErr l)]) ∧ OwnB W.heap.size w' v' (nuB l) ∧ Ext W w' := by
  refine calls_keep ?_
  have no : ¬ NuOk l → ∀ e w', e = .returned (.tuple #[.slice none 0 0, .int .i64 11]) → Ext W w' → Keep (fun e w' => ∃ v', e = .returned (.tuple #[v', .int .i64 (nuErr l)]) ∧ OwnB W.heap.size w' v' (nuB l) ∧ Ext W w') e w' := by
    intro h0 e w' he hx
    exact Keep.intro ⟨_, by rw [he, nuErr, if_neg h0]; rfl, by rw [nuB, if_neg h0]; exact OwnB.nil _ _, hx⟩
  have No := hide_ no
  clear no
  by_cases hbig : 64 < l.length
  · have t0 : (decide ((64 : Int) < (l.length : Int))) = true := by simp; omega
    have hno := hide_ (show ¬ NuOk l from fun e => by have := e.1; omega)
    clear hbig
    go_enter Try.func77, Try.ntmps77
    go_wp2_with (first
      | (refine i_len (.tmp 7) rfl rfl (v := v) rfl h ?_))
    go_ret2
    exact No.out hno.out _ _ rfl (Ext.refl _)
  · have t0 : (decide ((64 : Int) < (l.length : Int))) = false := by simp; omega
    have hL := hide_ hI
    clear hI
    go_enter Try.func77, Try.ntmps77
    go_wp2_with (first
      | (refine i_len (.tmp 7) rfl rfl (v := v) rfl h ?_)
      | (refine i_len (.tmp 10) rfl rfl (v := v) rfl (h.ext (by first | exact Ext.refl _ | exact (Ext.refl _).alloc _)) ?_))
    go_loopw [4, 12] (fun out i wr => ∃ (k : Nat), i = .int .i64 k ∧ k ≤ l.length ∧ OwnB W.heap.size wr out (nuL (l.take k)) ∧ Ext W wr ∧ Hid (∀ x ∈ l.take k, -1 ≤ x))
      (fun _ i _ => l.length - (intOf i).toNat)
    case atStart => exact ⟨0, rfl, Nat.zero_le _, by simpa [nuL] using OwnB.nil _ _, Ext.refl _, fun x hx => by simp at hx⟩
    case round =>
      obtain ⟨k, rfl, hk, ho, hbw, hall⟩ := hrel
      by_cases hlt : k < l.length
      · obtain ⟨hx0, hx1⟩ := hL.out l[k] (List.getElem_mem hlt)
        have hnl : (nuL (l.take k)).length ≤ 640 := by
          have := nuL_len (l.take k) (fun x hx => (hL.out x (List.mem_of_mem_take hx)).2)
          simp at this; omega
        by_cases hneg : l[k] < -1
        · have t2 : (decide (l[k] < -1)) = true := by simpa using hneg
          have hno := hide_ (show ¬ NuOk l from fun e => by have := e.2 l[k] (List.getElem_mem hlt); omega)
          clear hneg hx0 hx1
          go_wp2_with (first
            | (refine i_idx (.tmp 10) (.tmp 12) k rfl rfl (v := v) rfl (h.ext hbw) rfl hlt ?_; intro ad had))
          go_ret2
          exact No.out hno.out _ _ rfl hbw
        · have t2 : (decide (l[k] < -1)) = false := by simp; omega
          have hw := wrapNum l[k] (by omega) hx1
          obtain ⟨y, hy⟩ : ∃ y, IntKind.u64.wrap l[k] = y := ⟨_, rfl⟩
          rw [hy] at hw
          have hx64 : W64 (l[k] + 1).toNat := by unfold W64; omega
          obtain ⟨q, hq⟩ : ∃ q, (l[k] + 1).toNat = q := ⟨_, rfl⟩
          rw [hq] at hw hx64
          have Hq := hide_ hq
          clear hq
          have hn10 := numL_len10 hx64
          have Hk := hide_ (show -1 ≤ l[k] from by omega)
          clear hneg hx0 hx1
          go_wp2_with (first
            | (refine i_idx (.tmp 10) (.tmp 12) k rfl rfl (v := v) rfl (h.ext hbw) rfl hlt ?_; intro ad had)
            | (go_at_call 82; refine (appendNum_any W.heap.size u4 (nuL (l.take k)) q _ hx64 (by omega) ho hbw.size).mono ?_; rintro e w1 ⟨v1, rfl, ho1, hb1⟩))
          go_roundw
          case rel =>
            refine ⟨k + 1, by go_num, by omega, ?_, (show Below _ _ _ from hbw).trans hb1, fun x hx => ?_⟩
            · rw [take_one l k hlt, nuL_append]; simpa [nuL, Hq.out] using ho1
            · rw [take_one l k hlt] at hx
              rcases List.mem_append.1 hx with hx | hx
              · exact hall.out x hx
              · simp at hx; subst hx; exact Hk.out
          case measure => simp [intOf]; omega
      · have hok : NuOk l := nuOk_of (by omega) (by have := hall.out; rwa [show k = l.length from by omega] at this)
        have he : l.take k = l := List.take_of_length_le (by omega)
        rw [he] at ho
        have Hok := hide_ hok
        clear hok he
        go_wp2
        go_ret2
        exact Keep.intro ⟨_, by rw [nuErr, if_pos Hok.out]; rfl, by rw [nuB, if_pos Hok.out]; exact ho, hbw⟩



set_option maxRecDepth 100000 in
set_option maxHeartbeats 800000 in
theorem refNums_any (v : Value) (l : List Int) (W : World) (hI : I64s l) (h : Ints W v l) :
    Calls Try.prog 36 #[v] W fun e w' => ∃ v', e = .returned (.tuple #[v', .int .i64 (nuErr l)]) ∧ OwnB W.heap.size w' v' (nuB l) ∧ Ext W w' := by
  refine calls_keep ?_
  have no : ¬ NuOk l → ∀ e w', e = .returned (.tuple #[.slice none 0 0, .int .i64 11]) → Ext W w' → Keep (fun e w' => ∃ v', e = .returned (.tuple #[v', .int .i64 (nuErr l)]) ∧ OwnB W.heap.size w' v' (nuB l) ∧ Ext W w') e w' := by
    intro h0 e w' he hx
    exact Keep.intro ⟨_, by rw [he, nuErr, if_neg h0]; rfl, by rw [nuB, if_neg h0]; exact OwnB.nil _ _, hx⟩
  have No := hide_ no
  clear no
  by_cases hbig : 64 < l.length
  · have t0 : (decide ((64 : Int) < (l.length : Int))) = true := by simp; omega
    have hno := hide_ (show ¬ NuOk l from fun e => by have := e.1; omega)
    clear hbig
    go_enter Try.func36, Try.ntmps36
    go_wp2_with (first
      | (refine i_len (.tmp 7) rfl rfl (v := v) rfl h ?_))
    go_ret2
    exact No.out hno.out _ _ rfl (Ext.refl _)
  · have t0 : (decide ((64 : Int) < (l.length : Int))) = false := by simp; omega
    have hL := hide_ hI
    clear hI
    go_enter Try.func36, Try.ntmps36
    go_wp2_with (first
      | (refine i_len (.tmp 7) rfl rfl (v := v) rfl h ?_)
      | (refine i_len (.tmp 11) rfl rfl (v := v) rfl (h.ext (by first | exact Ext.refl _ | exact (Ext.refl _).alloc _)) ?_))
    go_loopw [4, 13] (fun out i wr => ∃ (k : Nat), i = .int .i64 k ∧ k ≤ l.length ∧ OwnB W.heap.size wr out (nuL (l.take k)) ∧ Ext W wr ∧ Hid (∀ x ∈ l.take k, -1 ≤ x))
      (fun _ i _ => l.length - (intOf i).toNat)
    case atStart => exact ⟨0, rfl, Nat.zero_le _, by simpa [nuL] using own_empty, (Ext.refl _).alloc _, fun x hx => by simp at hx⟩
    case round =>
      obtain ⟨k, rfl, hk, ho, hbw, hall⟩ := hrel
      by_cases hlt : k < l.length
      · obtain ⟨hx0, hx1⟩ := hL.out l[k] (List.getElem_mem hlt)
        have hnl : (nuL (l.take k)).length ≤ 640 := by
          have := nuL_len (l.take k) (fun x hx => (hL.out x (List.mem_of_mem_take hx)).2)
          simp at this; omega
        by_cases hneg : l[k] < -1
        · have t2 : (decide (l[k] < -1)) = true := by simpa using hneg
          have hno := hide_ (show ¬ NuOk l from fun e => by have := e.2 l[k] (List.getElem_mem hlt); omega)
          clear hneg hx0 hx1
          go_wp2_with (first
            | (refine i_idx (.tmp 11) (.tmp 13) k rfl rfl (v := v) rfl (h.ext hbw) rfl hlt ?_; intro ad had))
          go_ret2
          exact No.out hno.out _ _ rfl hbw
        · have t2 : (decide (l[k] < -1)) = false := by simp; omega
          have hw := wrapNum l[k] (by omega) hx1
          obtain ⟨y, hy⟩ : ∃ y, IntKind.u64.wrap l[k] = y := ⟨_, rfl⟩
          rw [hy] at hw
          have hx64 : W64 (l[k] + 1).toNat := by unfold W64; omega
          obtain ⟨q, hq⟩ : ∃ q, (l[k] + 1).toNat = q := ⟨_, rfl⟩
          rw [hq] at hw hx64
          have Hq := hide_ hq
          clear hq
          have hn10 := numL_len10 hx64
          have Hk := hide_ (show -1 ≤ l[k] from by omega)
          clear hneg hx0 hx1
          go_wp2_with (first
            | (refine i_idx (.tmp 11) (.tmp 13) k rfl rfl (v := v) rfl (h.ext hbw) rfl hlt ?_; intro ad had)
            | (go_at_call 39; refine (refNum_any q _ hx64).mono ?_; rintro e w0 ⟨v0, rfl, ho0, hx0⟩)
            | (at_builtin; refine appb (.tmp 19) (.tmp 23) rfl rfl rfl rfl (ho.ext hx0) ho0.byt (by omega) (Nat.le_trans hbw.size hx0.size) ?_; intro v1 w1 ho1 hb1' hg1; have hb1 := Below.trans (Below.mono hx0 hbw.size) hb1'; clear hb1' hg1))
          go_roundw
          case rel =>
            refine ⟨k + 1, by go_num, by omega, ?_, (show Below _ _ _ from hbw).trans hb1, fun x hx => ?_⟩
            · rw [take_one l k hlt, nuL_append]; simpa [nuL, Hq.out] using ho1
            · rw [take_one l k hlt] at hx
              rcases List.mem_append.1 hx with hx | hx
              · exact hall.out x hx
              · simp at hx; subst hx; exact Hk.out
          case measure => simp [intOf]; omega
      · have hok : NuOk l := nuOk_of (by omega) (by have := hall.out; rwa [show k = l.length from by omega] at this)
        have he : l.take k = l := List.take_of_length_le (by omega)
        rw [he] at ho
        have Hok := hide_ hok
        clear hok he
        go_wp2
        go_ret2
        exact Keep.intro ⟨_, by rw [nuErr, if_pos Hok.out]; rfl, by rw [nuB, if_pos Hok.out]; exact ho, hbw⟩

end Go.Proofs.Ytgbhbifdfcfamaa
namespace Go.Proofs.Ytgbhbifdfcfamaa
set_option maxRecDepth 100000
open Go.RowKit

/-- So many numbers with which bytes begin, and what is behind them. -/
def rns : Nat → List Nat → Option (List Int × List Nat)
  | 0, l => some ([], l)
  | k + 1, l => if (rd l).2 = 0 ∨ 4611686018427387905 < (rd l).1 then none else (rns k (rdRest l)).map fun r => ((((rd l).1 : Int) - 1) :: r.1, r.2)
def rnO (c : Int) (l : List Nat) : Option (List Int × List Nat) := if c < 0 ∨ 64 < c then none else rns c.toNat l
def rnV (o : Option (List Int × List Nat)) : List Int := match o with | some r => r.1 | none => []
def rnR (o : Option (List Int × List Nat)) : List Nat := match o with | some r => r.2 | none => []
def rnE (o : Option (List Int × List Nat)) : Nat := match o with | some _ => 0 | none => 11

theorem rdRest_len (l : List Nat) : (rdRest l).length ≤ l.length := by rw [rdRest]; split <;> simp
theorem rdRest_lt' {l : List Nat} (hl : ∀ x ∈ l, x < 256) : ∀ x ∈ rdRest l, x < 256 := by
  intro x hx; rw [rdRest] at hx
  split at hx
  · simp at hx
  · exact hl x (List.mem_of_mem_drop hx)

theorem own_empty2 {w : World} {n : Nat} (hn : n = w.heap.size) : OwnB w.heap.size (w.alloc (.cells #[] 5)) (.slice (some ⟨n, 0, none⟩) 0 0) [] := by subst hn; exact own_empty
theorem own_apart {B B' : Nat} {w : World} {b nv : Value} {mm : List Nat} {ys : List Int} (hb : OwnB B w b mm) (hn : OwnI B' w nv ys) : b.ownBlock = none ∨ b.ownBlock ≠ nv.ownBlock := by
  rcases hb.2 with ⟨rfl, _⟩ | ⟨g, cap, cur, rfl, _, hg, _⟩
  · exact .inl rfl
  · refine .inr fun he => ?_
    rcases hn.2 with ⟨rfl, _⟩ | ⟨g', cap', cur', rfl, _, hg', _⟩
    · simp [Value.ownBlock] at he
    · have : g = g' := by simpa [Value.ownBlock] using he
      subst this
      rw [hg] at hg'
      injection hg' with h1
      injection h1 with _ h2
      exact absurd h2 (by decide)
theorem OwnB.kept {B : Nat} {w w' : World} {b : Value} {mm : List Nat} {row : Option Nat} (h : OwnB B w b mm) (hg : w.grownBy w' row) (hne : b.ownBlock = none ∨ b.ownBlock ≠ row) : OwnB B w' b mm := World.ownsRow.kept h hg hne

/-- b[i:], where b's fact speaks of another world than the one at hand. -/
theorem b_from0 {ops : Array Oper} {rest : List Oper} {o : Oper} {a : Act} {Q : Exit → Act → World → Prop} {w w0 : World} {v : Value} {l : List Nat} (x y : Operand) (i : Nat) (hgd : o.guard = none) (ho : o.op = .slice 33 x (some y) none none) (hv : a.eval x = v) (h : Byt w0 v l)
    (hy : a.eval y = .int .i64 i) (hj : i ≤ l.length) (k : ∀ v', Byt w0 v' (l.drop i) → wpList Try.prog ops Q rest (a.put o.dst v') w) : wpList Try.prog ops Q (o :: rest) a w := by
  have E := Try.elB
  obtain ⟨A, c, rfl, h1, h2, h3⟩ := h
  obtain ⟨i0, hi0, _, hsz, _⟩ := E.info
  have hu := E.hu
  rw [u8s_length] at *
  have key : Byt w0 (.slice (if c = i then A else A.map (·.add (i * 1))) (l.length - i) (c - i)) (l.drop i) := by
    have hl : (u8s (l.drop i)).length = l.length - i := by simp [u8s_length]
    refine ⟨_, c - i, by rw [hl], by rw [hl]; omega, by omega, fun k u hk => ?_⟩
    rw [← u8s_drop, List.getElem?_drop] at hk
    obtain ⟨ad, rfl, hc⟩ := h3 _ u hk
    have hlt : i + k < (u8s l).length := (List.getElem?_eq_some_iff.1 hk).1
    rw [u8s_length] at hlt
    refine ⟨ad.add i, by rw [if_neg (by omega)]; simp, by rw [add_add']; exact hc⟩
  have b1 : ∀ (y : Nat) (code : BoundsCode) (n : Nat), n ≤ y → (Instr.sliceBound (.int .i64 (n : Int)) y code).run Try.prog w = .ok n w := fun y code n hn => by
    simp [Instr.sliceBound, go_sem]; omega
  refine wpList_runs hgd ?_ (k _ key)
  unfold Runs execOp
  simp [ho, hv, hy, Instr.sliceAt, Instr.slice, run_underlying hu, Instr.sliceBounds, sizeOf, typeInfo, hi0, hsz, b1 l.length .sliceB i hj]

theorem rns_step {k : Nat} {l : List Nat} (h0 : (rd l).2 ≠ 0) (h1 : ¬ 4611686018427387905 < (rd l).1) : rns (k + 1) l = (rns k (rdRest l)).map fun r => ((((rd l).1 : Int) - 1) :: r.1, r.2) := by
  rw [rns, if_neg (by omega)]
theorem rns_none {k : Nat} {l : List Nat} (h : (rd l).2 = 0 ∨ 4611686018427387905 < (rd l).1) : rns (k + 1) l = none := by rw [rns, if_pos h]


set_option maxRecDepth 100000 in
set_option maxHeartbeats 1600000 in
theorem ReadNums_any (v : Value) (l : List Nat) (c : Int) (W : World) (hl : ∀ x ∈ l, x < 256) (h : Byt W v l) (hlen : l.length ≤ 140737488355328) :
    Calls Try.prog 59 #[v, .int .i64 c] W fun e w' => ∃ v1 v2, e = .returned (.tuple #[v1, v2, .int .i64 (rnE (rnO c l))]) ∧ Ints w' v1 (rnV (rnO c l)) ∧ Byt w' v2 (rnR (rnO c l)) ∧ Ext W w' := by
  refine calls_keep ?_
  have no : rnO c l = none → ∀ e w', e = .returned (.tuple #[.slice none 0 0, .slice none 0 0, .int .i64 11]) → Ext W w' → Keep (fun e w' => ∃ v1 v2, e = .returned (.tuple #[v1, v2, .int .i64 (rnE (rnO c l))]) ∧ Ints w' v1 (rnV (rnO c l)) ∧ Byt w' v2 (rnR (rnO c l)) ∧ Ext W w') e w' := by
    intro h0 e w' he hx
    exact Keep.intro ⟨_, _, by rw [he, h0]; rfl, by rw [h0]; exact Ints.nil _, by rw [h0]; exact Byt.nil _, hx⟩
  have No := hide_ no
  clear no
  by_cases hc0 : c < 0
  · have t0 : (decide (c < 0)) = true := by simpa using hc0
    have hno := hide_ (show rnO c l = none from by rw [rnO, if_pos (.inl hc0)])
    clear hc0
    go_enter Try.func59, Try.ntmps59
    go_wp2
    go_ret3
    exact No.out hno.out _ _ rfl (Ext.refl _)
  by_cases hc1 : 64 < c
  · have t0 : (decide (c < 0)) = false := by simpa using hc0
    have t1 : (decide (64 < c)) = true := by simpa using hc1
    have hno := hide_ (show rnO c l = none from by rw [rnO, if_pos (.inr hc1)])
    clear hc0 hc1
    go_enter Try.func59, Try.ntmps59
    go_wp2
    go_ret3
    exact No.out hno.out _ _ rfl (Ext.refl _)
  obtain ⟨m, rfl⟩ := Int.eq_ofNat_of_zero_le (show 0 ≤ c by omega)
  have hm64 : m ≤ 64 := by omega
  have t1 : (decide ((64 : Int) < (m : Int))) = false := by simp; omega
  have HO := hide_ (show rnO (m : Int) l = rns m l from by rw [rnO, if_neg (by omega), Int.toNat_natCast])
  clear hc0 hc1
  go_enter Try.func59, Try.ntmps59
  go_wp2_with (first
      | (fail))
  go_loopw [0, 7, 17] (fun b nv i wr => ∃ (j : Nat) (ys : List Int) (mm : List Nat), i = .int .i64 j ∧ j ≤ m ∧ Byt W b mm ∧ (∀ x ∈ mm, x < 256) ∧ mm.length ≤ 140737488355328 ∧ OwnI W.heap.size wr nv ys ∧ Ext W wr ∧ ys.length = j ∧ Hid (rns m l = (rns (m - j) mm).map fun r => (ys ++ r.1, r.2)))
    (fun _ _ i _ => m - (intOf i).toNat)
  case atStart => exact ⟨0, [], l, rfl, by omega, h, hl, by omega, OwnI.nil _ _, Ext.refl _, rfl, by simp [Hid]⟩
  case round =>
    obtain ⟨j, ys, mm, rfl, hj, hB, hmm, hml, hN, hX, hys, hrns⟩ := hrel
    have hle := rd_le mm hmm
    have hrl := rdRest_len mm
    by_cases hlt : j < m
    · have hj1 : m - j = (m - (j + 1)) + 1 := by omega
      have tj : (decide (j < m)) = true := by simpa using hlt
      by_cases hz : (rd mm).2 = 0
      · have hnone := hide_ (show rnO (m : Int) l = none from by rw [HO.out, hrns.out, hj1, rns_none (.inl hz)]; rfl)
        have tz : (((rd mm).2 : Int) == 0) = true := by simp [hz]
        clear hz hj1
        go_wp2_with (first
          | (go_at_call 57; refine (findNum_any u0 mm _ hmm (hB.ext hX)).mono ?_; rintro e w1 ⟨rfl, rfl⟩))
        go_ret3
        exact No.out hnone.out _ _ rfl hX
      · by_cases hbig : 4611686018427387905 < (rd mm).1
        · have hnone := hide_ (show rnO (m : Int) l = none from by rw [HO.out, hrns.out, hj1, rns_none (.inr hbig)]; rfl)
          have tb : (decide ((4611686018427387905 : Int) < ((rd mm).1 : Int))) = true := by simp; omega
          have tz : (((rd mm).2 : Int) == 0) = false := by rw [beq_eq_false_iff_ne]; omega
          clear hz hbig hj1
          go_wp2_with (first
            | (go_at_call 57; refine (findNum_any u0 mm _ hmm (hB.ext hX)).mono ?_; rintro e w1 ⟨rfl, rfl⟩))
          go_ret3
          exact No.out hnone.out _ _ rfl hX
        · have tb : (decide ((4611686018427387905 : Int) < ((rd mm).1 : Int))) = false := by simp; omega
          have tz : (((rd mm).2 : Int) == 0) = false := by rw [beq_eq_false_iff_ne]; omega
          have c1 : IntKind.i64.wrap ((rd mm).1 : Int) = ((rd mm).1 : Int) := IntWalk.i64_in _ (by omega)
          have c2 : IntKind.i64.wrap (((rd mm).1 : Int) - 1) = ((rd mm).1 : Int) - 1 := IntWalk.i64_in _ (by omega)
          have Hrns := hide_ (show rns m l = (rns (m - (j + 1)) (rdRest mm)).map fun r => ((ys ++ [((rd mm).1 : Int) - 1]) ++ r.1, r.2) from by
            rw [hrns.out, hj1, rns_step hz hbig, Option.map_map]; congr 1; funext r; simp)
          have Hrest := hide_ (show mm.drop (rd mm).2 = rdRest mm from by rw [rdRest, if_neg hz])
          have hym : ys.length ≤ 64 := by omega
          have Hys := hide_ hys
          clear hz hbig hj1 hys
          go_wp2_with (first
            | (go_at_call 57; refine (findNum_any u0 mm _ hmm (hB.ext hX)).mono ?_; rintro e w1 ⟨rfl, rfl⟩)
            | (at_builtin; refine appi (.tmp 30) (.tmp 34) rfl rfl rfl rfl (hN.ext ((Ext.refl _).alloc _)) int_one (by simp; omega) (by have := hX.size; simp; omega) ?_; intro v3 w3 ho3 hb3 hg3 hat3)
            | (refine b_from0 (.tmp 36) (.tmp 37) (rd mm).2 rfl rfl (v := u0) rfl hB rfl hle ?_; intro v4 H4; rw [Hrest.out] at H4))
          go_roundw
          case rel => exact ⟨j + 1, ys ++ [((rd mm).1 : Int) - 1], rdRest mm, by go_num, by omega, H4, rdRest_lt' hmm, by omega, ho3, (show Below _ _ _ from hX).trans (((Below.refl _ _).alloc hX.size _).trans hb3), by rw [List.length_append, Hys.out]; rfl, Hrns.out⟩
          case measure => simp [intOf]; omega
    · have hjm : j = m := by omega
      have hfin : rnO (m : Int) l = some (ys, mm) := by rw [HO.out, hrns.out, hjm, Nat.sub_self, rns]; simp
      have Hfin := hide_ hfin
      have tj : (decide (j < m)) = false := by simpa using hlt
      clear hfin hjm hlt
      go_wp2_with (first
        | (go_at_call 58; refine (Clone_any u0 mm _ (hB.ext hX) hml).mono ?_; rintro e w5 ⟨v5, rfl, ho5, hx5⟩))
      go_ret3
      exact Keep.intro ⟨_, _, by rw [Hfin.out]; rfl, by rw [Hfin.out]; exact hN.ints.ext hx5, by rw [Hfin.out]; exact ho5.byt, hX.trans hx5⟩



set_option maxRecDepth 100000 in
set_option maxHeartbeats 1600000 in
theorem refReadNums_any (v : Value) (l : List Nat) (c : Int) (W : World) (hl : ∀ x ∈ l, x < 256) (h : Byt W v l) (hlen : l.length ≤ 140737488355328) :
    Calls Try.prog 30 #[v, .int .i64 c] W fun e w' => ∃ v1 v2, e = .returned (.tuple #[v1, v2, .int .i64 (rnE (rnO c l))]) ∧ Ints w' v1 (rnV (rnO c l)) ∧ Byt w' v2 (rnR (rnO c l)) ∧ Ext W w' := by
  refine calls_keep ?_
  have no : rnO c l = none → ∀ e w', e = .returned (.tuple #[.slice none 0 0, .slice none 0 0, .int .i64 11]) → Ext W w' → Keep (fun e w' => ∃ v1 v2, e = .returned (.tuple #[v1, v2, .int .i64 (rnE (rnO c l))]) ∧ Ints w' v1 (rnV (rnO c l)) ∧ Byt w' v2 (rnR (rnO c l)) ∧ Ext W w') e w' := by
    intro h0 e w' he hx
    exact Keep.intro ⟨_, _, by rw [he, h0]; rfl, by rw [h0]; exact Ints.nil _, by rw [h0]; exact Byt.nil _, hx⟩
  have No := hide_ no
  clear no
  by_cases hc0 : c < 0
  · have t0 : (decide (c < 0)) = true := by simpa using hc0
    have hno := hide_ (show rnO c l = none from by rw [rnO, if_pos (.inl hc0)])
    clear hc0
    go_enter Try.func30, Try.ntmps30
    go_wp2
    go_ret3
    exact No.out hno.out _ _ rfl (Ext.refl _)
  by_cases hc1 : 64 < c
  · have t0 : (decide (c < 0)) = false := by simpa using hc0
    have t1 : (decide (64 < c)) = true := by simpa using hc1
    have hno := hide_ (show rnO c l = none from by rw [rnO, if_pos (.inr hc1)])
    clear hc0 hc1
    go_enter Try.func30, Try.ntmps30
    go_wp2
    go_ret3
    exact No.out hno.out _ _ rfl (Ext.refl _)
  obtain ⟨m, rfl⟩ := Int.eq_ofNat_of_zero_le (show 0 ≤ c by omega)
  have hm64 : m ≤ 64 := by omega
  have t1 : (decide ((64 : Int) < (m : Int))) = false := by simp; omega
  have HO := hide_ (show rnO (m : Int) l = rns m l from by rw [rnO, if_neg (by omega), Int.toNat_natCast])
  clear hc0 hc1
  go_enter Try.func30, Try.ntmps30
  go_wp2_with (first
      | (fail)
      | (at_builtin; refine appb (.tmp 20) (.tmp 21) rfl rfl rfl rfl (own_empty2 (w := W.alloc (.cells #[] 3)) (by simp)) (h.ext (((Ext.refl _).alloc _).alloc _)) (by simpa using hlen) (by simp) ?_; intro v8 w8 ho8 hb8 hg8; have H8 := ho8.mono (B := W.heap.size) (by simp); have hx8 := ext_alloc_below hb8; have hxs := ((Ext.refl W).alloc (.cells #[] 3)).trans hx8; have HN := (int_empty (w := W)).ext hx8; clear ho8 hb8 hg8))
  go_loopw [8, 7, 9] (fun b nv i wr => ∃ (j : Nat) (ys : List Int) (mm : List Nat), i = .int .i64 j ∧ j ≤ m ∧ OwnB W.heap.size wr b mm ∧ (∀ x ∈ mm, x < 256) ∧ mm.length ≤ 140737488355328 ∧ OwnI W.heap.size wr nv ys ∧ Ext W wr ∧ ys.length = j ∧ Hid (rns m l = (rns (m - j) mm).map fun r => (ys ++ r.1, r.2)))
    (fun _ _ i _ => m - (intOf i).toNat)
  case atStart => exact ⟨0, [], l, rfl, by omega, H8, hl, by omega, HN, hxs, rfl, by simp [Hid]⟩
  case round =>
    obtain ⟨j, ys, mm, rfl, hj, hB, hmm, hml, hN, hX, hys, hrns⟩ := hrel
    have hle := rd_le mm hmm
    have hrl := rdRest_len mm
    by_cases hlt : j < m
    · have hj1 : m - j = (m - (j + 1)) + 1 := by omega
      have tj : (decide (j < m)) = true := by simpa using hlt
      by_cases hz : (rd mm).2 = 0
      · have hnone := hide_ (show rnO (m : Int) l = none from by rw [HO.out, hrns.out, hj1, rns_none (.inl hz)]; rfl)
        have Ez := hide_ (show rdErr mm = 11 from by rw [rdErr, if_pos hz])
        clear hz hj1
        go_wp2_with (first
          | (go_at_call 29; refine (refReadNum_own u8 mm _ hmm hB.byt hml).mono ?_; rintro e w1 ⟨v1, rfl, ho1, hx1⟩; rw [Ez.out]))
        go_ret3
        exact No.out hnone.out _ _ rfl (hX.trans hx1)
      · by_cases hbig : 4611686018427387905 < (rd mm).1
        · have hnone := hide_ (show rnO (m : Int) l = none from by rw [HO.out, hrns.out, hj1, rns_none (.inr hbig)]; rfl)
          have tb : (decide ((4611686018427387905 : Int) < ((rd mm).1 : Int))) = true := by simp; omega
          have Ez := hide_ (show rdErr mm = 0 from by rw [rdErr, if_neg hz])
          clear hz hbig hj1
          go_wp2_with (first
            | (go_at_call 29; refine (refReadNum_own u8 mm _ hmm hB.byt hml).mono ?_; rintro e w1 ⟨v1, rfl, ho1, hx1⟩; rw [Ez.out]))
          go_ret3
          exact No.out hnone.out _ _ rfl (hX.trans hx1)
        · have tb : (decide ((4611686018427387905 : Int) < ((rd mm).1 : Int))) = false := by simp; omega
          have Ez := hide_ (show rdErr mm = 0 from by rw [rdErr, if_neg hz])
          have c1 : IntKind.i64.wrap ((rd mm).1 : Int) = ((rd mm).1 : Int) := IntWalk.i64_in _ (by omega)
          have c2 : IntKind.i64.wrap (((rd mm).1 : Int) - 1) = ((rd mm).1 : Int) - 1 := IntWalk.i64_in _ (by omega)
          have Hrns := hide_ (show rns m l = (rns (m - (j + 1)) (rdRest mm)).map fun r => ((ys ++ [((rd mm).1 : Int) - 1]) ++ r.1, r.2) from by
            rw [hrns.out, hj1, rns_step hz hbig, Option.map_map]; congr 1; funext r; simp)
          have Hrest := hide_ (show mm.drop (rd mm).2 = rdRest mm from by rw [rdRest, if_neg hz])
          have hym : ys.length ≤ 64 := by omega
          have Hys := hide_ hys
          clear hz hbig hj1 hys
          go_wp2_with (first
            | (go_at_call 29; refine (refReadNum_own u8 mm _ hmm hB.byt hml).mono ?_; rintro e w1 ⟨v1, rfl, ho1, hx1⟩; rw [Ez.out])
            | (at_builtin; refine appi (.tmp 40) (.tmp 44) rfl rfl rfl rfl ((hN.ext hx1).ext ((Ext.refl _).alloc _)) int_one (by simp; omega) (by have := hX.size; have := hx1.size; simp; omega) ?_; intro v3 w3 ho3 hb3 hg3 hat3))
          go_roundw
          case rel => exact ⟨j + 1, ys ++ [((rd mm).1 : Int) - 1], rdRest mm, by go_num, by omega, ((ho1.ext ((Ext.refl _).alloc _)).kept hg3 (own_apart ho1 (hN.ext hx1))).mono hX.size, rdRest_lt' hmm, by omega, ho3, (show Below _ _ _ from hX.trans hx1).trans (((Below.refl _ _).alloc (hX.trans hx1).size _).trans hb3), by rw [List.length_append, Hys.out]; rfl, Hrns.out⟩
          case measure => simp [intOf]; omega
    · have hjm : j = m := by omega
      have hfin : rnO (m : Int) l = some (ys, mm) := by rw [HO.out, hrns.out, hjm, Nat.sub_self, rns]; simp
      have Hfin := hide_ hfin
      have tj : (decide (j < m)) = false := by simpa using hlt
      clear hfin hjm hlt
      go_wp2_with (first
        | fail)
      go_ret3
      exact Keep.intro ⟨_, _, by rw [Hfin.out]; rfl, by rw [Hfin.out]; exact hN.ints, by rw [Hfin.out]; exact hB.byt, hX⟩

end Go.Proofs.Ytgbhbifdfcfamaa
