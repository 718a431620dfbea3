/- The contract of wire.ReadNum. -/
import Derived.Test.YtgbhbifdfcfamaaFD
namespace Go.Proofs.Ytgbhbifdfcfamaa
set_option maxRecDepth 100000
open Go.RowKit

set_option maxRecDepth 100000 in
set_option maxHeartbeats 400000 in
theorem ReadNum_any (v : Value) (l : List Nat) (w : World) (hl : ∀ x ∈ l, x < 256) (h : Byt w v l) (hlen : l.length ≤ 140737488355328) :
    Calls Try.prog 42 #[v] w fun e w' => ∃ v', e = .returned (.tuple #[.int .u64 (rd l).1, v', .int .i64 (rdErr l)]) ∧ OwnB w.heap.size w' v' (rdRest l) ∧ Ext w w' := by
  have hle := rd_le l hl
  refine calls_keep ?_
  by_cases h0 : (rd l).2 = 0
  · have hz := rd_zero h0
    have hb : (((rd l).2 : Int) == 0) = true := by simp [h0]
    have H0 := hide_ h0
    have Hz := hide_ hz
    clear h0 hz
    go_enter Try.func42, Try.ntmps42
    go_wp2_with (go_at_call 57; refine (findNum_any v l w hl h).mono ?_; rintro e w' ⟨rfl, rfl⟩)
    go_ret3
    exact Keep.intro ⟨_, by rw [Hz.out, rdErr, if_pos H0.out]; rfl, by rw [rdRest, if_pos H0.out]; exact OwnB.nil _ _, Ext.refl _⟩
  · have hb : (((rd l).2 : Int) == 0) = false := by rw [beq_eq_false_iff_ne]; omega
    have H0 := hide_ h0
    clear h0
    go_enter Try.func42, Try.ntmps42
    go_wp2_with (first
      | (go_at_call 57; refine (findNum_any v l w hl h).mono ?_; rintro e w' ⟨rfl, rfl⟩)
      | (refine b_from (.tmp 15) (.tmp 16) (rd l).2 rfl rfl (v := v) rfl h rfl hle ?_; intro v1 hv1)
      | (go_at_call 58; refine (Clone_any v1 (l.drop (rd l).2) w hv1 (by simp; omega)).mono ?_; rintro e w' ⟨v2, rfl, ho, hx⟩))
    go_ret3
    exact Keep.intro ⟨_, by rw [rdErr, if_neg H0.out]; rfl, by rw [rdRest, if_neg H0.out]; exact ho, hx⟩
end Go.Proofs.Ytgbhbifdfcfamaa
