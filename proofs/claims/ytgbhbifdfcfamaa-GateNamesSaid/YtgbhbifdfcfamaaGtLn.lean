/- GateNames returns true: nothing passes that isn't a message. No condition. -/
import Derived.Test.YtgbhbifdfcfamaaGtLa
namespace Go.Proofs.Ytgbhbifdfcfamaa
set_option maxRecDepth 100000
open Go.RowKit Go.ChangeShapes Go.WideShapes Go.ChangeAt

theorem rd_nil : rdMsg [] = none := rdMsg_none (by simp) fun x hx => by
  have h := hx.2
  unfold MsgD.bytes at h
  exact numL_ne _ (List.append_eq_nil_iff.1 h.symm).1
set_option maxRecDepth 100000 in
set_option maxHeartbeats 3200000 in
theorem gateNames_any (w : World) : Calls Try.prog 3 #[] w fun e w' => e = .returned (.bool true) ∧ Ext w w' := by
  refine calls_keep ?_
  have hX := Ext.refl w
  have n1 : True := trivial
  have n2 : True := trivial
  have hr := hide_ rd_nil
  have hi0 : ∀ w' : World, Ints w' (.slice none 0 0) [] := fun w' => (own_nil w' 0 3 |> Sl.of_own)
  have hb0 : ∀ w' : World, Byt w' (.slice none 0 0) [] := fun w' => (own_nil w' 0 5 |> Sl.of_own)
  replace hi0 := hide_ hi0
  replace hb0 := hide_ hb0
  go_enter Try.func3, Try.ntmps3
  go_wp2_with ((first
    | go_big_skip
    | ((with_reducible refine at_lit ?_); refine w_new Try.elI (i64s [0]) rfl rfl rfl (i64s_cells _) rfl (by omega) ?_; intro vl w1 hx ol; replace ol := hide_ (show OwnI _ w1 vl [0] from ol).ints; replace hX := hX.trans hx; clear hx)
    | (go_at_call 9; refine (gateAlive_any _).mono ?_; rintro e w4 ⟨rfl, hx⟩; replace hG0 := hide_ (hG0.out.ext hx); replace hX := hX.trans hx; clear hx)
    | (have _t := n1; go_at_call 8; refine (GNew_any ol.out (by simp)).mono ?_; rintro e w2 ⟨p, rfl, g1, g2, vb, G0, hG00, hx, hnew⟩; have hG0 := hide_ hG00; have hgW := hide_ (show ∀ k, gm g1 g2 k → w.heap.size ≤ k from fun k hk => Nat.le_trans hX.size (hnew k (hk.elim (fun e => e ▸ hG00.inG.2.1) fun e => e ▸ hG00.inG.2.2.1)).1); clear hG00 hnew ol n1; replace hX := hX.trans hx; clear hx)
    | (go_at_call 10; refine (GPass_any hG0.out (x := []) (by simp) (by simp) (hb0.out _) (by simp)).mono ?_; rintro e w6 ⟨rfl, G', hG', hN⟩; rw [GaD.pass_none hr.out]; replace hX := hN.mod.after hX hgW.out; clear hG' hN)
    | (go_at_call 8; refine (GNew_any (hi0.out _) (by simp)).mono ?_; rintro e w7 ⟨p7, rfl, g17, g27, vb7, G7, hG70, hx, hnew7⟩; have hG7 := hide_ hG70; clear hG70 hnew7; replace hX := hX.trans hx; clear hx)
    | (go_at_call 11; refine (GBad_any hG7.out 0).mono ?_; rintro e w6 ⟨rfl, hx⟩; rw [show decide ((0 : Int) ∈ ([] : List Int)) = false from rfl]; replace hX := hX.trans hx; clear hx)
    | fail) <;> (try simp only [Act.put, List.setIfInBounds_toArray, List.set_cons_zero, List.set_cons_succ]))
  go_ret
  exact Keep.intro ⟨rfl, hX⟩

set_option maxRecDepth 100000 in
theorem gateNames_lifted (os : Os) (started : os.Started) (H : Type) (enc : TypeId × Value → H) :
    ReturnsInHanded {} Try.checked os 3 .any (Rows.gateNamesSpec.pre6 enc Try.prog Try.f3 Rows.gateNamesRow.domain false) (Rows.gateNamesSpec.post enc Try.prog Try.f3 false true false false) := by
  refine law_lifted (s := Rows.gateNamesSpec) (conds := Rows.gateNamesRow.domain) Try.func3 (by kernel_rfl) rfl (fun H ds h => by
      rw [show Try.f3.params.size = 0 from rfl] at h
      obtain rfl : ds = [] := List.eq_nil_of_length_eq_zero h
      rfl) rfl rfl (by decide +kernel) os started H enc
    (ChangeSpec.witness6 (enc := enc) (C := Try.checked) false ⟨#[], #[], []⟩ 8 (by kernel_rfl) (by kernel_rfl) (by kernel_rfl) (by kernel_rfl)) ?_
  intro W base args ds p hval hA hsz _
  obtain rfl : args = #[] := by cases args with | mk l => cases l with | nil => rfl | cons v vs => cases ds <;> exact hA.elim
  exact gateNames_any W

theorem gateNames_holds : Rows.GateNamesSaid :=
  OpenClaim.holds_of_wide 3 Try.f3 rfl rfl rfl rfl rfl rfl rfl ⟨rfl, rfl, rfl, rfl, rfl⟩ rfl rfl rfl rfl rfl (by kernel_rfl) Try.func3 (by kernel_rfl)
    (of_decide_eq_true (by kernel_rfl)) (by unfold Func.isWrapper; first | (rw [if_pos (by decide +kernel)]; kernel_rfl) | (rw [if_neg (by decide +kernel)]; exact ⟨rfl, rfl⟩))
    (fun os started H enc _ => gateNames_lifted os started H enc)
#print axioms gateNames_holds

end Go.Proofs.Ytgbhbifdfcfamaa
