/- The contract of wire.findNum: the number with which bytes begin, and how many bytes it takes. -/
import Derived.Test.YtabbgnlabiakoaaNumS
namespace Go.Proofs.Ytabbgnlabiakoaa
open Go.RowKit

theorem wrapU64 (n : Nat) (h : n < 18446744073709551616) : IntKind.u64.wrap (n : Int) = (n : Int) := by
  simp [IntKind.wrap, IntKind.bits, IntKind.signed]; omega

theorem orshl (acc k c : Nat) (h : acc < 128 ^ k) (hk : k ≤ 9) (hc : k = 9 → c % 128 ≤ 1) :
    bits .or .u64 (acc : Int) (IntKind.u64.wrap ((c : Int) % 128 * 2 ^ (7 * k))) = ((acc + c % 128 * 128 ^ k : Nat) : Int) := by
  have hp : (2 : Nat) ^ (7 * k) = 128 ^ k := by rw [Nat.pow_mul]
  have hlt : acc + c % 128 * 128 ^ k < 18446744073709551616 := by
    rcases Nat.lt_or_ge k 9 with h9 | h9
    · have h1 : 128 ^ (k + 1) ≤ 128 ^ 9 := Nat.pow_le_pow_right (by omega) h9
      have h2 : c % 128 * 128 ^ k ≤ 127 * 128 ^ k := Nat.mul_le_mul_right _ (by omega)
      rw [Nat.pow_succ] at h1; omega
    · have : k = 9 := by omega
      subst this
      have h2 : c % 128 * 128 ^ 9 ≤ 1 * 128 ^ 9 := Nat.mul_le_mul_right _ (hc rfl)
      omega
  have hx : ((c : Int) % 128 * 2 ^ (7 * k)) = ((c % 128 * 128 ^ k : Nat) : Int) := by rw [← hp]; push_cast; rfl
  rw [hx, wrapU64 _ (by omega)]
  rw [u64_or_nat _ _ (by omega) (by omega), Nat.or_comm, nat_join (7 * k) _ _ (by rw [hp, Nat.mul_mod_left]) (by rw [hp]; exact h), Nat.add_comm]

theorem pow_step (acc k c : Nat) (h : acc < 128 ^ k) : acc + c % 128 * 128 ^ k < 128 ^ (k + 1) := by
  have : c % 128 * 128 ^ k ≤ 127 * 128 ^ k := Nat.mul_le_mul_right _ (by omega)
  rw [Nat.pow_succ]; omega

set_option maxRecDepth 100000 in
set_option maxHeartbeats 400000 in
theorem findNum_any (v : Value) (l : List Nat) (w : World) (hl : ∀ x ∈ l, x < 256) (h : Byt w v l) :
    Calls Try.prog 33 #[v] w fun e w' => e = .returned (.tuple #[.int .u64 (rd l).1, .int .i64 (rd l).2]) ∧ w = w' := by
  have hlm := h.len_le
  unfold maxLen at hlm
  obtain ⟨A, c, rfl, hc1, hc2, hc⟩ := h
  rw [u8s_length] at *
  have Hc : Hid (∀ k u, (u8s l)[k]? = some u → ∃ ad : Addr, A = some ad ∧ w.cell? (ad.add k) = some u) := hc
  clear hc
  go_enter Try.func33, Try.ntmps33
  go_wp2
  go_loop [2, 8] (fun n i => ∃ (k acc : Nat), n = .int .u64 acc ∧ i = .int .i64 k ∧ k ≤ l.length ∧ k ≤ 9 ∧ Hid (acc < 128 ^ k) ∧ Hid (rd l = scan k acc (l.drop k)))
    (fun _ i => l.length - (intOf i).toNat)
  case atStart => exact ⟨0, 0, rfl, rfl, by omega, by omega, by simp [Hid], rfl⟩
  case round =>
    obtain ⟨k, acc, rfl, rfl, hk, hk9, hacc, hrd⟩ := hrel
    by_cases hlt : k < l.length
    · obtain ⟨ad, rfl, hcell⟩ := Hc.out k (.int .u8 (l[k] : Nat)) (by simp [u8s, hlt])
      have hb := hl l[k] (List.getElem_mem hlt)
      have hdrop : Hid (l.drop k = l[k] :: l.drop (k + 1)) := List.drop_eq_getElem_cons hlt
      by_cases h9 : k = 9 ∧ 1 < l[k]
      · obtain ⟨h9, h1⟩ := h9
        have H9 : Hid (k = 9) := h9
        have hb9 : ((k : Int) == 9) = true := by simp [h9]
        clear h9
        go_wp2
        go_ret2
        have := hrd.out; rw [hdrop.out, scan, if_pos ⟨H9.out, h1⟩] at this
        rw [this]; exact ⟨rfl, rfl⟩
      · by_cases h128 : 128 ≤ l[k]
        · have hb9 : ((k : Int) == 9) = false := by
            rw [beq_eq_false_iff_ne]; intro e; exact h9 ⟨by omega, by omega⟩
          have hne : Hid (k ≠ 9) := fun e => h9 ⟨by omega, by omega⟩
          clear h9
          go_wp2
          refine ⟨⟨k + 1, acc + l[k] % 128 * 128 ^ k, ?_, by go_num, by omega, by have := hne.out; omega, ?_, ?_⟩, by simp [intOf]; omega⟩
          · rw [orshl acc k l[k] hacc.out hk9 (fun e => absurd e hne.out)]
          · exact pow_step acc k l[k] hacc.out
          · have := hrd.out; rw [hdrop.out, scan, if_neg (fun e => hne.out e.1), if_pos h128] at this; exact this
        · by_cases h0 : l[k] = 0 ∧ 0 < k
          · obtain ⟨h0, h1⟩ := h0
            have hb9 : (decide (1 < (l[k] : Int))) = false := by simp; omega
            have hb0 : ((l[k] : Int) == 0) = true := by simp [h0]
            have hk0 : (decide (0 < (k : Int))) = true := by simp; omega
            have H0 : Hid (l[k] = 0) := h0
            clear h9 h0
            go_wp2
            all_goals
              go_ret2
              have := hrd.out; rw [hdrop.out, scan, if_neg (by rw [H0.out]; omega), if_neg h128, if_pos ⟨H0.out, h1⟩] at this
              rw [this]; exact ⟨rfl, rfl⟩
          · have hfin : Hid (rd l = (acc + l[k] * 128 ^ k, k + 1)) := by
              have := hrd.out; rw [hdrop.out, scan, if_neg h9, if_neg h128, if_neg h0] at this; exact this
            have hor : bits .or .u64 (acc : Int) (IntKind.u64.wrap ((l[k] : Int) % 128 * 2 ^ (7 * k))) = ((acc + l[k] * 128 ^ k : Nat) : Int) := by
              rw [orshl acc k l[k] hacc.out hk9 (by intro e; have : ¬ 1 < l[k] := fun h => h9 ⟨e, h⟩; omega), Nat.mod_eq_of_lt (by omega)]
            have Hor : Hid (bits .or .u64 (acc : Int) (IntKind.u64.wrap ((l[k] : Int) % 128 * 2 ^ (7 * k))) = ((acc + l[k] * 128 ^ k : Nat) : Int)) := hor
            have hc1 : ((l[k] : Int) ≥ 128) = False := by simp; omega
            by_cases e9 : k = 9
            · have hb9 : ((k : Int) == 9) = true := by simp [e9]
              have hd1 : (decide (1 < (l[k] : Int))) = false := by simp; omega
              have hb0 : ((l[k] : Int) == 0) = false := by rw [beq_eq_false_iff_ne]; intro e; exact h0 ⟨by omega, by omega⟩
              clear h9 h0 hc1 e9 hor
              go_wp2
              all_goals
                go_ret2
                rw [Hor.out, hfin.out]; exact ⟨rfl, rfl⟩
            · have hb9 : ((k : Int) == 9) = false := by rw [beq_eq_false_iff_ne]; omega
              by_cases ec : l[k] = 0
              · have hb0 : ((l[k] : Int) == 0) = true := by simp [ec]
                have hk0 : (decide (0 < (k : Int))) = false := by simp; omega
                have hk1 : (decide (0 < k)) = false := by simp; omega
                clear h9 h0 hc1 e9 hor ec
                go_wp2
                all_goals
                  go_ret2
                  rw [Hor.out, hfin.out]; exact ⟨rfl, rfl⟩
              · have hb0 : ((l[k] : Int) == 0) = false := by rw [beq_eq_false_iff_ne]; omega
                clear h9 h0 hc1 e9 hor ec
                go_wp2
                all_goals
                  go_ret2
                  rw [Hor.out, hfin.out]; exact ⟨rfl, rfl⟩
    · go_wp2
      go_ret2
      have := hrd.out; rw [List.drop_eq_nil_of_le (by omega), scan] at this
      rw [this]; exact ⟨rfl, rfl⟩
end Go.Proofs.Ytabbgnlabiakoaa
