/- The statement CheckNames: the example, the numbers of the steps, and that a new core has decided nothing and is bound to nothing. No condition. -/
import Derived.Test.YtajkjiegcmpjaaaPk16
import Derived.Test.YtajkjiegcmpjaaaPk05
namespace Go.Proofs.Ytajkjiegcmpjaaa
set_option maxHeartbeats 3200000
set_option maxRecDepth 100000
open Go.RowKit Go.ChangeShapes Go.WideShapes Go.ChangeAt
theorem stOk11 : StOk [1, 1] := by decide
theorem checkNames_law (W : World) : Calls Try.prog 3 #[] W fun e w' => e = .returned (.bool true) ∧ Ext W w' := by
  refine z2cz ?_
  go_enter Try.func3, Try.ntmps3
  go_wp2_with ((first | go_big_skip | ((with_reducible refine at_lit ?_); refine w_new Try.elI (i64s [1, 1]) rfl rfl rfl (i64s_cells _) rfl (by omega) ?_; intro v4 w4 hx4 o4; replace o4 : OwnI _ w4 v4 [1, 1] := o4) | (go_at_call 9; refine (New_any (me := 1) (base := 2) (most := 8) o4.ints stOk11 (by decide)).mono ?_; rintro e w5 ⟨p, S5, rfl, hC5, _, _, hx5⟩; have hX := hx4.trans hx5; obtain ⟨sv, dv, q, gp, gs, hC0⟩ := hC5; have hC := hide_ hC0; have hb := Ext.refl w5; clear hC0 hx4 hx5 o4) | (go_at_call 10; refine (Lock_core (hC.out.ext hb)).mono ?_; rintro e w6 ⟨rfl, hx⟩; replace hb := hb.trans hx; clear hx) | (go_at_call 11; refine alive_any.mono ?_; rintro e w6 ⟨rfl, hx⟩; replace hb := hb.trans hx; clear hx) | (go_at_call 12; refine (Index_core (hC.out.ext hb)).mono ?_; rintro e w6 ⟨rfl, hx⟩; replace hb := hb.trans hx; clear hx) | (go_at_call 13; refine (View_core (hC.out.ext hb)).mono ?_; rintro e w6 ⟨rfl, hx⟩; replace hb := hb.trans hx; clear hx) | (go_at_call 14; refine (Step_core (hC.out.ext hb)).mono ?_; rintro e w6 ⟨rfl, hx⟩; replace hb := hb.trans hx; clear hx) | fail) <;> (try refine z0z ?_))
  go_ret
  exact Keep.intro ⟨rfl, hX.trans hb⟩
theorem checkNames_lifted (os : Os) (started : os.Started) (H : Type) (enc : TypeId × Value → H) :
    ReturnsInHanded {} Try.checked os 3 .any (Rows.checkNamesSpec.pre6 enc Try.prog Try.f3 Rows.checkNamesRow.domain false) (Rows.checkNamesSpec.post enc Try.prog Try.f3 false true false false) := by
  refine law_lifted (s := Rows.checkNamesSpec) (conds := Rows.checkNamesRow.domain) Try.func3 (by kernel_rfl) rfl (fun H ds h => by
      rw [show Try.f3.params.size = 0 from rfl] at h
      obtain rfl : ds = [] := List.eq_nil_of_length_eq_zero h
      rfl) rfl rfl (by decide +kernel) os started H enc
    (ChangeSpec.witness6 (enc := enc) (C := Try.checked) false ⟨#[], #[], []⟩ 8 (by kernel_rfl) (by kernel_rfl) (by kernel_rfl) (by kernel_rfl)) ?_
  intro W base args ds p hval hA hsz _
  obtain rfl : args = #[] := by cases args with | mk l => cases l with | nil => rfl | cons v vs => cases ds <;> exact hA.elim
  exact checkNames_law W
theorem checkNames_holds : Rows.CheckNamesSaid :=
  OpenClaim.holds_of_wide 3 Try.f3 rfl rfl rfl rfl rfl rfl rfl ⟨rfl, rfl, rfl, rfl, rfl⟩ rfl rfl rfl rfl rfl (by kernel_rfl) Try.func3 (by kernel_rfl)
    (of_decide_eq_true (by kernel_rfl)) (by unfold Func.isWrapper; first | (rw [if_pos (by decide +kernel)]; kernel_rfl) | (rw [if_neg (by decide +kernel)]; exact ⟨rfl, rfl⟩))
    (fun os started H enc _ => checkNames_lifted os started H enc)
#print axioms checkNames_holds
end Go.Proofs.Ytajkjiegcmpjaaa
