/- lotAlive: true. -/
import Derived.Test.YtnbnbnjojnlcpaaLotS
import Derived.Test.YtnbnbnjojnlcpaaLot2
import Derived.Test.YtnbnbnjojnlcpaaSame
namespace Go.Proofs.Ytnbnbnjojnlcpaa
open Go.RowKit

set_option maxRecDepth 100000 in
set_option maxHeartbeats 1600000 in
theorem lotAlive_any (W : World) : Calls Try.prog 8 #[] W fun e w' => e = .returned (.bool true) ∧ Ext W w' := by
  refine calls_keep ?_
  obtain ⟨L, hL0⟩ : ∃ L : List Int, L = [1, 6] := ⟨_, rfl⟩
  obtain ⟨A, hA0⟩ : ∃ A : List Int, A = [1, 2] := ⟨_, rfl⟩
  obtain ⟨B, hB0⟩ : ∃ B : List Int, B = [2] := ⟨_, rfl⟩
  obtain ⟨C, hC0⟩ : ∃ C : List Int, C = [0, 1, 2] := ⟨_, rfl⟩
  have hD := hide_ (show DrOk L from by rw [hL0]; decide)
  have q1 := hide_ (show win L 1 0 = true from by rw [hL0]; decide)
  have q2 := hide_ (show win L 1 1 = false from by rw [hL0]; decide)
  have q3 := hide_ (show wns L 2 = A from by rw [hL0, hA0]; decide)
  have q4 := hide_ (show sls L 2 = B from by rw [hL0, hB0]; decide)
  have q5 := hide_ (show sgl L C = false from by rw [hL0, hC0]; decide)
  have hL := hide_ hL0
  have hA := hide_ hA0
  have hB := hide_ hB0
  have hC := hide_ hC0
  clear hL0 hA0 hB0 hC0
  go_enter Try.func8, Try.ntmps8
  go_wp2_with ((first
    | (go_at_call 11; refine (Wins_any hD.out h0.out).mono ?_; rintro e w4 ⟨rfl, hx⟩; (first | rw [q1.out] | rw [q2.out]); replace hX := hX.trans hx; replace h0 := hide_ (h0.out.ext hx); clear hx)
    | (go_at_call 15; refine (Winners_any hD.out h0.out).mono ?_; rintro e w4 ⟨vA, rfl, i1, hx⟩; rw [q3.out] at i1; replace i1 := hide_ i1; replace hX := hX.trans hx; replace h0 := hide_ (h0.out.ext hx); clear hx)
    | (go_at_call 17; refine (Slots_any hD.out h0.out).mono ?_; rintro e w4 ⟨vB, rfl, i1, hx⟩; rw [q4.out] at i1; replace i1 := hide_ i1; replace hX := hX.trans hx; replace h0 := hide_ (h0.out.ext hx); clear hx)
    | (go_at_call 14; refine (SameInts_any _ _ _ _ i1.out i2.out).mono ?_; rintro e w4 ⟨rfl, hx⟩; replace hX := hX.trans hx; replace h0 := hide_ (h0.out.ext hx); clear hx i1 i2)
    | (go_at_call 10; refine (Single_any hD.out h0.out i2.out).mono ?_; rintro e w4 ⟨rfl, hx⟩; rw [q5.out]; replace hX := hX.trans hx; clear hx)
    | ((with_reducible refine at_lit ?_); refine w_new Try.elI (o := ⟨some 2, _, _, _, _, _⟩) (i64s [1, 6]) rfl rfl rfl (i64s_cells _) rfl (by omega) ?_; intro v3 w3 hX ho3; have h0 : Ints _ v3 L := by { rw [hL.out]; exact OwnI.ints ho3 }; replace h0 := hide_ h0; clear ho3)
    | (refine w_yes _ _ _ rfl rfl rfl ?_; refine w_new Try.elI (o := ⟨some 13, _, _, _, _, _⟩) (i64s [1, 2]) rfl rfl rfl (i64s_cells _) rfl (by omega) ?_; intro vp w3 hx ho3; have i2 : Ints _ vp A := by { rw [hA.out]; exact OwnI.ints ho3 }; replace i2 := hide_ i2; replace i1 := hide_ (i1.out.ext hx); replace hX := hX.trans hx; replace h0 := hide_ (h0.out.ext hx); clear ho3 hx)
    | (refine w_yes _ _ _ rfl rfl rfl ?_; refine w_new Try.elI (o := ⟨some 19, _, _, _, _, _⟩) (i64s [2]) rfl rfl rfl (i64s_cells _) rfl (by omega) ?_; intro vp w3 hx ho3; have i2 : Ints _ vp B := by { rw [hB.out]; exact OwnI.ints ho3 }; replace i2 := hide_ i2; replace i1 := hide_ (i1.out.ext hx); replace hX := hX.trans hx; replace h0 := hide_ (h0.out.ext hx); clear ho3 hx)
    | (refine w_yes _ _ _ rfl rfl rfl ?_; refine w_new Try.elI (o := ⟨some 24, _, _, _, _, _⟩) (i64s [0, 1, 2]) rfl rfl rfl (i64s_cells _) rfl (by omega) ?_; intro vp w3 hx ho3; have i2 : Ints _ vp C := by { rw [hC.out]; exact OwnI.ints ho3 }; replace i2 := hide_ i2; replace hX := hX.trans hx; replace h0 := hide_ (h0.out.ext hx); clear ho3 hx)
    | fail) <;> (try simp only [Act.put, List.setIfInBounds_toArray, List.set_cons_zero, List.set_cons_succ]))
  go_ret
  exact Keep.intro ⟨rfl, hX⟩
end Go.Proofs.Ytnbnbnjojnlcpaa
