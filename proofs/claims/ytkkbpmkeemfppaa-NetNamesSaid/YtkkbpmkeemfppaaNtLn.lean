/- NetNames returns true: the limit has its number; in the beginning all are on one side; of a bag in which nothing is nothing is told. No condition: the law has no parameter. -/
import Derived.Test.YtkkbpmkeemfppaaNtLa
namespace Go.Proofs.Ytkkbpmkeemfppaa
open Go.RowKit Go.ChangeShapes Go.WideShapes Go.ChangeAt

set_option maxRecDepth 100000 in
set_option maxHeartbeats 3200000 in
theorem netNames_law (w : World) : Calls Try.prog 3 #[] w fun e w' => e = .returned (.bool true) ∧ Ext w w' := by
  refine calls_keep ?_
  go_enter Try.func3, Try.ntmps3
  go_wp2_with (first
    | go_big_skip
    | (go_at_call 9; refine (SNew_any).mono ?_; rintro e w4 ⟨p, rfl, f1, hX, hp⟩; clear hp; replace f1 := hide_ f1)
    | (go_at_call 10; refine (BNewS_any).mono ?_; rintro e w4 ⟨p2, rfl, hx, c, f2, hch⟩; replace f1 := hide_ (f1.out.ext hx); replace f2 := hide_ f2; replace hch := hide_ hch; replace hX := hX.trans hx; clear hx)
    | (go_at_call 11; refine (AtS_none f2.out hch.out).mono ?_; rintro e w4 ⟨rfl, hx⟩; replace f1 := hide_ (f1.out.ext hx); replace hX := hX.trans hx; clear hx)
    | (go_at_call 12; refine (netAlive_any _).mono ?_; rintro e w4 ⟨rfl, hx⟩; replace f1 := hide_ (f1.out.ext hx); have tokA : True := trivial; replace hX := hX.trans hx; clear hx)
    | (have _t := tokA; go_at_call 13; refine (SSame_any (x := 0) (y := 6) (q := true) f1.out rfl).mono ?_; rintro e w4 ⟨rfl, hx⟩; clear _t tokA; replace f1 := hide_ (f1.out.ext hx); replace hX := hX.trans hx; clear hx)
    | (go_at_call 13; refine (SSame_any (x := 0) (y := 7) (q := false) f1.out rfl).mono ?_; rintro e w4 ⟨rfl, hx⟩; replace f1 := hide_ (f1.out.ext hx); replace hX := hX.trans hx; clear hx)
    | fail)
  go_ret
  exact Keep.intro ⟨rfl, hX⟩

set_option maxRecDepth 100000 in
theorem netNames_lifted (os : Os) (started : os.Started) (H : Type) (enc : TypeId × Value → H) :
    ReturnsInHanded {} Try.checked os 3 .any (Rows.netNamesSpec.pre6 enc Try.prog Try.f3 Rows.netNamesRow.domain false) (Rows.netNamesSpec.post enc Try.prog Try.f3 false true false false) := by
  refine law_lifted (s := Rows.netNamesSpec) (conds := Rows.netNamesRow.domain) Try.func3 (by kernel_rfl) rfl (fun H ds h => by
      rw [show Try.f3.params.size = 0 from rfl] at h
      obtain rfl : ds = [] := List.eq_nil_of_length_eq_zero h
      rfl) rfl rfl (by decide +kernel) os started H enc
    (ChangeSpec.witness6 (enc := enc) (C := Try.checked) false ⟨#[], #[], []⟩ 8 (by kernel_rfl) (by kernel_rfl) (by kernel_rfl) (by kernel_rfl)) ?_
  intro W base args ds p hval hA hsz _
  obtain rfl : args = #[] := by cases args with | mk l => cases l with | nil => rfl | cons v vs => cases ds <;> exact hA.elim
  exact netNames_law W

theorem netNames_holds : Rows.NetNamesSaid :=
  OpenClaim.holds_of_wide 3 Try.f3 rfl rfl rfl rfl rfl rfl rfl ⟨rfl, rfl, rfl, rfl, rfl⟩ rfl rfl rfl rfl rfl (by kernel_rfl) Try.func3 (by kernel_rfl)
    (of_decide_eq_true (by kernel_rfl)) (by unfold Func.isWrapper; first | (rw [if_pos (by decide +kernel)]; kernel_rfl) | (rw [if_neg (by decide +kernel)]; exact ⟨rfl, rfl⟩))
    (fun os started H enc _ => netNames_lifted os started H enc)
#print axioms netNames_holds

end Go.Proofs.Ytkkbpmkeemfppaa
