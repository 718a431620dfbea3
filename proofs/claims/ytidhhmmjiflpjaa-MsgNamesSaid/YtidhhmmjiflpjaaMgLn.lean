/- The statement MsgNames: the error, the kinds and the limits have their numbers, and a vote for nothing is written and read. No condition. -/
import Derived.Test.YtidhhmmjiflpjaaMgLa
import Derived.Test.YtidhhmmjiflpjaaFL
namespace Go.Proofs.Ytidhhmmjiflpjaa
set_option maxRecDepth 100000
open Go.RowKit Go.ChangeShapes Go.WideShapes Go.ChangeAt

set_option maxRecDepth 100000 in
set_option maxHeartbeats 800000 in
theorem msgNames_any (W : World) : Calls Try.prog 3 #[] W fun e w' => e = .returned (.bool true) ∧ Ext W w' := by
  refine calls_keep ?_
  go_enter Try.func3, Try.ntmps3
  go_wp2_with (first
    | (go_at_call 9; refine (msgAlive_any _).mono ?_; rintro e w2 ⟨rfl, hX⟩)
    | fail)
  go_ret
  exact Keep.intro ⟨rfl, hX⟩

set_option maxRecDepth 100000 in
theorem msgNames_lifted (os : Os) (started : os.Started) (H : Type) (enc : TypeId × Value → H) :
    ReturnsInHanded {} Try.checked os 3 .any (Rows.msgNamesSpec.pre6 enc Try.prog Try.f3 Rows.msgNamesRow.domain false) (Rows.msgNamesSpec.post enc Try.prog Try.f3 false true false false) := by
  refine law_lifted (s := Rows.msgNamesSpec) (conds := Rows.msgNamesRow.domain) Try.func3 (by kernel_rfl) rfl (fun H ds h => by
      rw [show Try.f3.params.size = 0 from rfl] at h
      obtain rfl : ds = [] := List.eq_nil_of_length_eq_zero h
      rfl) rfl rfl (by decide +kernel) os started H enc
    (ChangeSpec.witness6 (enc := enc) (C := Try.checked) false ⟨#[], #[], []⟩ 8 (by kernel_rfl) (by kernel_rfl) (by kernel_rfl) (by kernel_rfl)) ?_
  intro W base args ds p hval hA hsz _
  obtain rfl : args = #[] := by cases args with | mk l => cases l with | nil => rfl | cons v vs => cases ds <;> exact hA.elim
  exact msgNames_any W

theorem msgNames_holds : Rows.MsgNamesSaid :=
  OpenClaim.holds_of_wide 3 Try.f3 rfl rfl rfl rfl rfl rfl rfl ⟨rfl, rfl, rfl, rfl, rfl⟩ rfl rfl rfl rfl rfl (by kernel_rfl) Try.func3 (by kernel_rfl)
    (of_decide_eq_true (by kernel_rfl)) (by unfold Func.isWrapper; first | (rw [if_pos (by decide +kernel)]; kernel_rfl) | (rw [if_neg (by decide +kernel)]; exact ⟨rfl, rfl⟩))
    (fun os started H enc _ => msgNames_lifted os started H enc)
#print axioms msgNames_holds

end Go.Proofs.Ytidhhmmjiflpjaa
