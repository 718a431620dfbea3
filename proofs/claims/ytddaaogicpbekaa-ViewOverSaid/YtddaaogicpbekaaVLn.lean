/- The statement ViewNames: the chapter's example; the limit has its number. No condition. -/
import Derived.Test.YtddaaogicpbekaaVw0
import Derived.Test.YtddaaogicpbekaaFL
namespace Go.Proofs.Ytddaaogicpbekaa
open Go.RowKit Go.ChangeShapes Go.WideShapes Go.ChangeAt

set_option maxRecDepth 100000 in
set_option maxHeartbeats 1600000 in
theorem viewNames_any (W : World) : Calls Try.prog 3 #[] W fun e w' => e = .returned (.bool true) ∧ Ext W w' := by
  refine calls_keep ?_
  have hX := Ext.refl W
  have q1 := hide_ (show pat 0 3 10 = 3 from by decide)
  have q2 := hide_ (show pat 1 3 10 = 6 from by decide)
  have q3 := hide_ (show pat 2 3 10 = 10 from by decide)
  have q4 := hide_ (show pat 99 3 10 = 10 from by decide)
  have q5 := hide_ (show ldr 2 3 4 = 1 from by decide)
  go_enter Try.func3, Try.ntmps3
  go_wp2_with (first
    | (go_at_call 9; refine (Patience_any (by omega)).mono ?_; rintro e w4 ⟨rfl, hx⟩; (first | rw [q1.out] | rw [q2.out] | rw [q3.out] | rw [q4.out]); replace hX := hX.trans hx; clear hx)
    | (go_at_call 10; refine Leader_any.mono ?_; rintro e w4 ⟨rfl, hx⟩; rw [q5.out]; replace hX := hX.trans hx; clear hx)
    | fail)
  go_ret
  exact Keep.intro ⟨rfl, hX⟩

set_option maxRecDepth 100000 in
theorem viewNames_lifted (os : Os) (started : os.Started) (H : Type) (enc : TypeId × Value → H) :
    ReturnsInHanded {} Try.checked os 3 .any (Rows.viewNamesSpec.pre6 enc Try.prog Try.f3 Rows.viewNamesRow.domain false) (Rows.viewNamesSpec.post enc Try.prog Try.f3 false true false false) := by
  refine law_lifted (s := Rows.viewNamesSpec) (conds := Rows.viewNamesRow.domain) Try.func3 (by kernel_rfl) rfl (fun H ds h => by
      rw [show Try.f3.params.size = 0 from rfl] at h
      obtain rfl : ds = [] := List.eq_nil_of_length_eq_zero h
      rfl) rfl rfl (by decide +kernel) os started H enc
    (ChangeSpec.witness6 (enc := enc) (C := Try.checked) false ⟨#[], #[], []⟩ 8 (by kernel_rfl) (by kernel_rfl) (by kernel_rfl) (by kernel_rfl)) ?_
  intro W base args ds p hval hA hsz _
  obtain rfl : args = #[] := by cases args with | mk l => cases l with | nil => rfl | cons v vs => cases ds <;> exact hA.elim
  exact viewNames_any W

theorem viewNames_holds : Rows.ViewNamesSaid :=
  OpenClaim.holds_of_wide 3 Try.f3 rfl rfl rfl rfl rfl rfl rfl ⟨rfl, rfl, rfl, rfl, rfl⟩ rfl rfl rfl rfl rfl (by kernel_rfl) Try.func3 (by kernel_rfl)
    (of_decide_eq_true (by kernel_rfl)) (by unfold Func.isWrapper; first | (rw [if_pos (by decide +kernel)]; kernel_rfl) | (rw [if_neg (by decide +kernel)]; exact ⟨rfl, rfl⟩))
    (fun os started H enc _ => viewNames_lifted os started H enc)
#print axioms viewNames_holds

end Go.Proofs.Ytddaaogicpbekaa
