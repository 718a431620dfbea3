/- The statement MempoolNames: the error and the limit have their numbers; a new pool has nothing. No condition. -/
import Derived.Test.YtdacclcaopmalaaMLa
namespace Go.Proofs.Ytdacclcaopmalaa
set_option maxRecDepth 100000
open Go.RowKit Go.ChangeShapes Go.WideShapes Go.ChangeAt


set_option maxRecDepth 100000 in
theorem mempoolNames_lifted (os : Os) (started : os.Started) (H : Type) (enc : TypeId × Value → H) :
    ReturnsInHanded {} Try.checked os 3 .any (Rows.mempoolNamesSpec.pre6 enc Try.prog Try.f3 Rows.mempoolNamesRow.domain false) (Rows.mempoolNamesSpec.post enc Try.prog Try.f3 false true false false) := by
  refine law_lifted (s := Rows.mempoolNamesSpec) (conds := Rows.mempoolNamesRow.domain) Try.func3 (by kernel_rfl) rfl (fun H ds h => by
      rw [show Try.f3.params.size = 0 from rfl] at h
      obtain rfl : ds = [] := List.eq_nil_of_length_eq_zero h
      rfl) rfl rfl (by decide +kernel) os started H enc
    (ChangeSpec.witness6 (enc := enc) (C := Try.checked) false ⟨#[], #[], []⟩ 8 (by kernel_rfl) (by kernel_rfl) (by kernel_rfl) (by kernel_rfl)) ?_
  intro W base args ds p hval hA hsz _
  obtain rfl : args = #[] := by cases args with | mk l => cases l with | nil => rfl | cons v vs => cases ds <;> exact hA.elim
  exact mempoolNames_any W

theorem mempoolNames_holds : Rows.MempoolNamesSaid :=
  OpenClaim.holds_of_wide 3 Try.f3 rfl rfl rfl rfl rfl rfl rfl ⟨rfl, rfl, rfl, rfl, rfl⟩ rfl rfl rfl rfl rfl (by kernel_rfl) Try.func3 (by kernel_rfl)
    (of_decide_eq_true (by kernel_rfl)) (by unfold Func.isWrapper; first | (rw [if_pos (by decide +kernel)]; kernel_rfl) | (rw [if_neg (by decide +kernel)]; exact ⟨rfl, rfl⟩))
    (fun os started H enc _ => mempoolNames_lifted os started H enc)
#print axioms mempoolNames_holds

end Go.Proofs.Ytdacclcaopmalaa
