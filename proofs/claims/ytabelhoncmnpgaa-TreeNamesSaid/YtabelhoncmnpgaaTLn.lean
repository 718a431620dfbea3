/- The statement TreeNames: a new tree has nothing. No condition. -/
import Derived.Test.YtabelhoncmnpgaaTLa
import Derived.Test.YtabelhoncmnpgaaFL
namespace Go.Proofs.Ytabelhoncmnpgaa
set_option maxRecDepth 100000
open Go.RowKit Go.ChangeShapes Go.WideShapes Go.ChangeAt

theorem tip0 : TrS.tip [] = 0 := by kernel_rfl
theorem names0 : TrS.names [] = [] := by kernel_rfl
theorem high00 : TrS.height [] 0 = 0 := by kernel_rfl
theorem high05 : TrS.height [] 5 = -1 := by kernel_rfl
theorem miss0 : TrS.missing ⟨[], []⟩ = [] := by kernel_rfl
set_option maxRecDepth 100000 in
set_option maxHeartbeats 1600000 in
theorem treeNames_any (W : World) : Calls Try.prog 3 #[] W fun e w' => e = .returned (.bool true) ∧ Ext W w' := by
  refine calls_keep ?_
  have tok1 : True := trivial
  go_enter Try.func3, Try.ntmps3
  go_wp2_with ((first
    | (go_at_call 10; refine (New_any (w := W)).mono ?_; rintro e w1 ⟨p, G, rfl, hT, hX, hG⟩; clear hG)
    | (go_at_call 11; refine (treeAlive_any _).mono ?_; rintro e w2 ⟨rfl, hx⟩; replace hT := hT.ext hx; replace hX := hX.trans hx; clear hx)
    | (go_at_call 12; refine (Tip_any hT).mono ?_; rintro e w5 ⟨rfl, hx⟩; rw [tip0]; replace hT := hT.ext hx; replace hX := hX.trans hx; clear hx)
    | (go_at_call 13; refine (Names_any hT).mono ?_; rintro e w5 ⟨v1, rfl, o1, hx⟩; rw [names0] at o1; replace o1 := o1.ints; replace hT := hT.ext hx; replace hX := hX.trans hx; clear hx)
    | (go_at_call 14; refine (Waiting_any hT).mono ?_; rintro e w5 ⟨v2, rfl, o2, hx⟩; replace o2 := o2.ints; replace hT := hT.ext hx; replace hX := hX.trans hx; clear hx)
    | (go_at_call 15; refine (Missing_any hT (by simp)).mono ?_; rintro e w5 ⟨v3, rfl, o3, hx⟩; rw [miss0] at o3; replace o3 := o3.ints; replace hT := hT.ext hx; replace hX := hX.trans hx; clear hx)
    | (go_at_call 16; have _t := tok1; refine (Height_any (n := 0) hT ⟨by omega, by omega⟩).mono ?_; rintro e w5 ⟨rfl, hx⟩; rw [high00]; replace hT := hT.ext hx; replace hX := hX.trans hx; clear hx tok1)
    | (go_at_call 16; refine (Height_any (n := 5) hT ⟨by omega, by omega⟩).mono ?_; rintro e w5 ⟨rfl, hx⟩; rw [high05]; replace hT := hT.ext hx; replace hX := hX.trans hx; clear hx)
    | ((with_reducible refine at_bi ?_); (try refine w_yes _ _ _ rfl rfl rfl ?_); refine i_len _ rfl rfl (v := v3) rfl o3 ?_)
    | ((with_reducible refine at_bi ?_); (try refine w_yes _ _ _ rfl rfl rfl ?_); refine i_len _ rfl rfl (v := v2) rfl o2 ?_)
    | ((with_reducible refine at_bi ?_); (try refine w_yes _ _ _ rfl rfl rfl ?_); refine i_len _ rfl rfl (v := v1) rfl o1 ?_)
    | fail) <;> (try simp only [Act.put, List.setIfInBounds_toArray, List.set_cons_zero, List.set_cons_succ]))
  go_ret
  exact Keep.intro ⟨rfl, hX⟩

set_option maxRecDepth 100000 in
theorem treeNames_lifted (os : Os) (started : os.Started) (H : Type) (enc : TypeId × Value → H) :
    ReturnsInHanded {} Try.checked os 3 .any (Rows.treeNamesSpec.pre6 enc Try.prog Try.f3 Rows.treeNamesRow.domain false) (Rows.treeNamesSpec.post enc Try.prog Try.f3 false true false false) := by
  refine law_lifted (s := Rows.treeNamesSpec) (conds := Rows.treeNamesRow.domain) Try.func3 (by kernel_rfl) rfl (fun H ds h => by
      rw [show Try.f3.params.size = 0 from rfl] at h
      obtain rfl : ds = [] := List.eq_nil_of_length_eq_zero h
      rfl) rfl rfl (by decide +kernel) os started H enc
    (ChangeSpec.witness6 (enc := enc) (C := Try.checked) false ⟨#[], #[], []⟩ 8 (by kernel_rfl) (by kernel_rfl) (by kernel_rfl) (by kernel_rfl)) ?_
  intro W base args ds p hval hA hsz _
  obtain rfl : args = #[] := by cases args with | mk l => cases l with | nil => rfl | cons v vs => cases ds <;> exact hA.elim
  exact treeNames_any W

theorem treeNames_holds : Rows.TreeNamesSaid :=
  OpenClaim.holds_of_wide 3 Try.f3 rfl rfl rfl rfl rfl rfl rfl ⟨rfl, rfl, rfl, rfl, rfl⟩ rfl rfl rfl rfl rfl (by kernel_rfl) Try.func3 (by kernel_rfl)
    (of_decide_eq_true (by kernel_rfl)) (by unfold Func.isWrapper; first | (rw [if_pos (by decide +kernel)]; kernel_rfl) | (rw [if_neg (by decide +kernel)]; exact ⟨rfl, rfl⟩))
    (fun os started H enc _ => treeNames_lifted os started H enc)
#print axioms treeNames_holds

end Go.Proofs.Ytabelhoncmnpgaa
