/- The contracts of journal.canBe and its like: which records can be. -/
import Derived.Test.YtfhecifgpjbeiaaJRec
import Derived.Test.YtfhecifgpjbeiaaNums
import Derived.Test.YtfhecifgpjbeiaaArr
namespace Go.Proofs.Ytfhecifgpjbeiaa
open Go.RowKit

def N30b (n : Int) : Bool := decide (N30 n)
theorem N30_lo {n : Int} (h : N30 n) : decide (n < -1) = false := by unfold N30 at h; simp; omega
theorem N30_hi {n : Int} (h : N30 n) : decide (1073741824 < n) = false := by unfold N30 at h; simp; omega

set_option maxRecDepth 100000 in
set_option maxHeartbeats 800000 in
theorem canBe_any {w : World} {row : List Value} {r : RecD} (h : RecR w row r) : Calls Try.prog 30 #[.agg row.toArray] w fun e w' => e = .returned (.bool (decide r.Ok)) ∧ Ext w w' := by
  obtain ⟨⟨u, rfl, hu⟩, hraw⟩ := h
  refine calls_keep ?_
  go_enter Try.func30, Try.ntmps30
  go_wp2_with ((first
    | (refine w_box _ [.int .i64 r.k, .int .i64 r.i, .int .i64 r.v, .int .i64 r.x, u] rfl rfl rfl rfl ?_; intro g1 w1 hg1 hX f1)
    | (refine w_field Try.stRec _ _ _ rfl rfl rfl (by omega) ?_)
    | (refine w_fload _ rfl rfl rfl f1 rfl (agg_of (by kernel_rfl)) ?_)
    | fail) <;> (try simp only [Act.put, List.setIfInBounds_toArray, List.set_cons_zero, List.set_cons_succ]))
  have hraw := hide_ hraw
  go_loopw [14] (fun i wr => ∃ k : Nat, i = .int .i64 k ∧ k ≤ 4 ∧ Hid (∀ j y, j < k → r.nums[j]? = some y → N30 y) ∧ Fs wr g1 [.int .i64 r.k, .int .i64 r.i, .int .i64 r.v, .int .i64 r.x, u] ∧ Ext w wr) (fun i _ => 4 - (intOf i).toNat)
  case atStart => exact ⟨0, rfl, by omega, hide_ (fun j y h => by omega), f1, hX⟩
  case round =>
    clear f1 hX
    obtain ⟨k, rfl, hk, hn, f1, hX⟩ := hrel
    rcases (show k = 0 ∨ k = 1 ∨ k = 2 ∨ k = 3 ∨ k = 4 by omega) with rfl | rfl | rfl | rfl | rfl
    · by_cases hlo : r.k < -1
      · have t1 : decide (r.k < -1) = true := by simpa using hlo
        have hok := hide_ (show ¬ r.Ok from fun h => by have := h.1; unfold N30 at this; omega)
        clear hlo
        go_wp2_with ((first
              | (refine w_aget Try.underlying78 (by kernel_rfl) (agg_of (by kernel_rfl)) _ _ 0 rfl rfl rfl rfl rfl rfl ?_)
              | fail) <;> (try simp only [Act.put, List.setIfInBounds_toArray, List.set_cons_zero, List.set_cons_succ]))
        go_ret
        exact Keep.intro ⟨by rw [decide_eq_false hok.out]; rfl, hX⟩
      · have t1 : decide (r.k < -1) = false := by simpa using hlo
        by_cases hhi : 1073741824 < r.k
        · have t2 : decide (1073741824 < r.k) = true := by simpa using hhi
          have hok := hide_ (show ¬ r.Ok from fun h => by have := h.1; unfold N30 at this; omega)
          clear hlo hhi
          go_wp2_with ((first
              | (refine w_aget Try.underlying78 (by kernel_rfl) (agg_of (by kernel_rfl)) _ _ 0 rfl rfl rfl rfl rfl rfl ?_)
              | fail) <;> (try simp only [Act.put, List.setIfInBounds_toArray, List.set_cons_zero, List.set_cons_succ]))
          go_ret
          exact Keep.intro ⟨by rw [decide_eq_false hok.out]; rfl, hX⟩
        · have t2 : decide (1073741824 < r.k) = false := by simpa using hhi
          have hn2 := hide_ (show ∀ j y, j < 1 → r.nums[j]? = some y → N30 y from fun j y hj hy => by
            by_cases hj2 : j < 0
            · exact hn.out j y hj2 hy
            · obtain rfl : j = 0 := by omega
              have e : r.k = y := by simpa [RecD.nums] using hy
              subst e; unfold N30; omega)
          clear hlo hhi hn
          go_wp2_with ((first
              | (refine w_aget Try.underlying78 (by kernel_rfl) (agg_of (by kernel_rfl)) _ _ 0 rfl rfl rfl rfl rfl rfl ?_)
              | fail) <;> (try simp only [Act.put, List.setIfInBounds_toArray, List.set_cons_zero, List.set_cons_succ]))
          go_roundw
          case rel => exact ⟨1, by rfl, by omega, hn2, f1, hX⟩
          case measure => simp [intOf]
    · by_cases hlo : r.i < -1
      · have t1 : decide (r.i < -1) = true := by simpa using hlo
        have hok := hide_ (show ¬ r.Ok from fun h => by have := h.2.1; unfold N30 at this; omega)
        clear hlo
        go_wp2_with ((first
              | (refine w_aget Try.underlying78 (by kernel_rfl) (agg_of (by kernel_rfl)) _ _ 1 rfl rfl rfl rfl rfl rfl ?_)
              | fail) <;> (try simp only [Act.put, List.setIfInBounds_toArray, List.set_cons_zero, List.set_cons_succ]))
        go_ret
        exact Keep.intro ⟨by rw [decide_eq_false hok.out]; rfl, hX⟩
      · have t1 : decide (r.i < -1) = false := by simpa using hlo
        by_cases hhi : 1073741824 < r.i
        · have t2 : decide (1073741824 < r.i) = true := by simpa using hhi
          have hok := hide_ (show ¬ r.Ok from fun h => by have := h.2.1; unfold N30 at this; omega)
          clear hlo hhi
          go_wp2_with ((first
              | (refine w_aget Try.underlying78 (by kernel_rfl) (agg_of (by kernel_rfl)) _ _ 1 rfl rfl rfl rfl rfl rfl ?_)
              | fail) <;> (try simp only [Act.put, List.setIfInBounds_toArray, List.set_cons_zero, List.set_cons_succ]))
          go_ret
          exact Keep.intro ⟨by rw [decide_eq_false hok.out]; rfl, hX⟩
        · have t2 : decide (1073741824 < r.i) = false := by simpa using hhi
          have hn2 := hide_ (show ∀ j y, j < 2 → r.nums[j]? = some y → N30 y from fun j y hj hy => by
            by_cases hj2 : j < 1
            · exact hn.out j y hj2 hy
            · obtain rfl : j = 1 := by omega
              have e : r.i = y := by simpa [RecD.nums] using hy
              subst e; unfold N30; omega)
          clear hlo hhi hn
          go_wp2_with ((first
              | (refine w_aget Try.underlying78 (by kernel_rfl) (agg_of (by kernel_rfl)) _ _ 1 rfl rfl rfl rfl rfl rfl ?_)
              | fail) <;> (try simp only [Act.put, List.setIfInBounds_toArray, List.set_cons_zero, List.set_cons_succ]))
          go_roundw
          case rel => exact ⟨2, by rfl, by omega, hn2, f1, hX⟩
          case measure => simp [intOf]
    · by_cases hlo : r.v < -1
      · have t1 : decide (r.v < -1) = true := by simpa using hlo
        have hok := hide_ (show ¬ r.Ok from fun h => by have := h.2.2.1; unfold N30 at this; omega)
        clear hlo
        go_wp2_with ((first
              | (refine w_aget Try.underlying78 (by kernel_rfl) (agg_of (by kernel_rfl)) _ _ 2 rfl rfl rfl rfl rfl rfl ?_)
              | fail) <;> (try simp only [Act.put, List.setIfInBounds_toArray, List.set_cons_zero, List.set_cons_succ]))
        go_ret
        exact Keep.intro ⟨by rw [decide_eq_false hok.out]; rfl, hX⟩
      · have t1 : decide (r.v < -1) = false := by simpa using hlo
        by_cases hhi : 1073741824 < r.v
        · have t2 : decide (1073741824 < r.v) = true := by simpa using hhi
          have hok := hide_ (show ¬ r.Ok from fun h => by have := h.2.2.1; unfold N30 at this; omega)
          clear hlo hhi
          go_wp2_with ((first
              | (refine w_aget Try.underlying78 (by kernel_rfl) (agg_of (by kernel_rfl)) _ _ 2 rfl rfl rfl rfl rfl rfl ?_)
              | fail) <;> (try simp only [Act.put, List.setIfInBounds_toArray, List.set_cons_zero, List.set_cons_succ]))
          go_ret
          exact Keep.intro ⟨by rw [decide_eq_false hok.out]; rfl, hX⟩
        · have t2 : decide (1073741824 < r.v) = false := by simpa using hhi
          have hn2 := hide_ (show ∀ j y, j < 3 → r.nums[j]? = some y → N30 y from fun j y hj hy => by
            by_cases hj2 : j < 2
            · exact hn.out j y hj2 hy
            · obtain rfl : j = 2 := by omega
              have e : r.v = y := by simpa [RecD.nums] using hy
              subst e; unfold N30; omega)
          clear hlo hhi hn
          go_wp2_with ((first
              | (refine w_aget Try.underlying78 (by kernel_rfl) (agg_of (by kernel_rfl)) _ _ 2 rfl rfl rfl rfl rfl rfl ?_)
              | fail) <;> (try simp only [Act.put, List.setIfInBounds_toArray, List.set_cons_zero, List.set_cons_succ]))
          go_roundw
          case rel => exact ⟨3, by rfl, by omega, hn2, f1, hX⟩
          case measure => simp [intOf]
    · by_cases hlo : r.x < -1
      · have t1 : decide (r.x < -1) = true := by simpa using hlo
        have hok := hide_ (show ¬ r.Ok from fun h => by have := h.2.2.2.1; unfold N30 at this; omega)
        clear hlo
        go_wp2_with ((first
              | (refine w_aget Try.underlying78 (by kernel_rfl) (agg_of (by kernel_rfl)) _ _ 3 rfl rfl rfl rfl rfl rfl ?_)
              | fail) <;> (try simp only [Act.put, List.setIfInBounds_toArray, List.set_cons_zero, List.set_cons_succ]))
        go_ret
        exact Keep.intro ⟨by rw [decide_eq_false hok.out]; rfl, hX⟩
      · have t1 : decide (r.x < -1) = false := by simpa using hlo
        by_cases hhi : 1073741824 < r.x
        · have t2 : decide (1073741824 < r.x) = true := by simpa using hhi
          have hok := hide_ (show ¬ r.Ok from fun h => by have := h.2.2.2.1; unfold N30 at this; omega)
          clear hlo hhi
          go_wp2_with ((first
              | (refine w_aget Try.underlying78 (by kernel_rfl) (agg_of (by kernel_rfl)) _ _ 3 rfl rfl rfl rfl rfl rfl ?_)
              | fail) <;> (try simp only [Act.put, List.setIfInBounds_toArray, List.set_cons_zero, List.set_cons_succ]))
          go_ret
          exact Keep.intro ⟨by rw [decide_eq_false hok.out]; rfl, hX⟩
        · have t2 : decide (1073741824 < r.x) = false := by simpa using hhi
          have hn2 := hide_ (show ∀ j y, j < 4 → r.nums[j]? = some y → N30 y from fun j y hj hy => by
            by_cases hj2 : j < 3
            · exact hn.out j y hj2 hy
            · obtain rfl : j = 3 := by omega
              have e : r.x = y := by simpa [RecD.nums] using hy
              subst e; unfold N30; omega)
          clear hlo hhi hn
          go_wp2_with ((first
              | (refine w_aget Try.underlying78 (by kernel_rfl) (agg_of (by kernel_rfl)) _ _ 3 rfl rfl rfl rfl rfl rfl ?_)
              | fail) <;> (try simp only [Act.put, List.setIfInBounds_toArray, List.set_cons_zero, List.set_cons_succ]))
          go_roundw
          case rel => exact ⟨4, by rfl, by omega, hn2, f1, hX⟩
          case measure => simp [intOf]
    · by_cases h5 : r.t.length ≤ 1024
      · have t5 : decide ((r.t.length : Int) ≤ (1024 : Int)) = true := by simp; omega
        have hok := hide_ (show r.Ok from ⟨hn.out 0 r.k (by omega) rfl, hn.out 1 r.i (by omega) rfl, hn.out 2 r.v (by omega) rfl, hn.out 3 r.x (by omega) rfl, h5⟩)
        clear h5
        go_wp2_with ((first
          | (refine w_field Try.stRec _ _ _ rfl rfl rfl (by omega) ?_)
          | (refine w_fload _ rfl rfl rfl f1 rfl (agg_of (by kernel_rfl)) ?_)
          | (refine b_len _ rfl rfl (v := u) rfl (hu.ext hX) ?_)
          | fail) <;> (try simp only [Act.put, List.setIfInBounds_toArray, List.set_cons_zero, List.set_cons_succ]))
        go_ret
        exact Keep.intro ⟨by rw [decide_eq_true hok.out]; rfl, hX⟩
      · have t5 : decide ((r.t.length : Int) ≤ (1024 : Int)) = false := by simp; omega
        have hok := hide_ (show ¬ r.Ok from fun h => h5 h.2.2.2.2)
        clear h5
        go_wp2_with ((first
          | (refine w_field Try.stRec _ _ _ rfl rfl rfl (by omega) ?_)
          | (refine w_fload _ rfl rfl rfl f1 rfl (agg_of (by kernel_rfl)) ?_)
          | (refine b_len _ rfl rfl (v := u) rfl (hu.ext hX) ?_)
          | fail) <;> (try simp only [Act.put, List.setIfInBounds_toArray, List.set_cons_zero, List.set_cons_succ]))
        go_ret
        exact Keep.intro ⟨by rw [decide_eq_false hok.out]; rfl, hX⟩
end Go.Proofs.Ytfhecifgpjbeiaa
