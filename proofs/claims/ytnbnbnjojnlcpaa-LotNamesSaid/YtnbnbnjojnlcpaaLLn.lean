/- The statement LotNames: the error and the limit have their numbers; without draws nobody wins. No condition. -/
import Derived.Test.YtnbnbnjojnlcpaaLotLa
import Derived.Test.YtnbnbnjojnlcpaaArgI
namespace Go.Proofs.Ytnbnbnjojnlcpaa
open Go.RowKit Go.ChangeShapes Go.WideShapes Go.ChangeAt

set_option maxRecDepth 100000 in
set_option maxHeartbeats 1600000 in
theorem lotNames_any (W : World) : Calls Try.prog 3 #[] W fun e w' => e = .returned (.bool true) ∧ Ext W w' := by
  refine calls_keep ?_
  obtain ⟨L, hL0⟩ : ∃ L : List Int, L = [128] := ⟨_, rfl⟩
  obtain ⟨E, hE0⟩ : ∃ E : List Int, E = [] := ⟨_, rfl⟩
  have hI := hide_ (show I64s L from by rw [hL0]; intro x hx; simp only [List.mem_singleton] at hx; omega)
  have hI0 := hide_ (show I64s E from by rw [hE0]; intro x hx; simp at hx)
  have hD := hide_ (show DrOk E from by rw [hE0]; decide)
  have q1 := hide_ (show lchk L = 101 from by rw [hL0]; decide)
  have q2 := hide_ (show lchk E = 0 from by rw [hE0]; decide)
  have q3 := hide_ (show sgl E E = true from by rw [hE0]; decide)
  have q4 := hide_ (show win E 1 0 = false from by rw [hE0]; decide)
  have hE := hide_ (show ∀ w, Ints w (.slice none 0 0) E from fun w => by rw [hE0]; exact Ints.nil w)
  have hL := hide_ hL0
  clear hL0 hE0
  go_enter Try.func3, Try.ntmps3
  go_wp2_with ((first
    | (go_at_call 8; refine (lotAlive_any _).mono ?_; rintro e w4 ⟨rfl, hX⟩)
    | (go_at_call 9; refine (Check_any h0.out hI.out).mono ?_; rintro e w4 ⟨rfl, hx⟩; rw [q1.out]; replace hX := hX.trans hx; clear hx h0)
    | (go_at_call 9; refine (Check_any (hE.out _) hI0.out).mono ?_; rintro e w4 ⟨rfl, hx⟩; rw [q2.out]; replace hX := hX.trans hx; clear hx)
    | (go_at_call 10; refine (Single_any hD.out (hE.out _) (hE.out _)).mono ?_; rintro e w4 ⟨rfl, hx⟩; rw [q3.out]; replace hX := hX.trans hx; clear hx)
    | (go_at_call 11; refine (Wins_any hD.out (hE.out _)).mono ?_; rintro e w4 ⟨rfl, hx⟩; rw [q4.out]; replace hX := hX.trans hx; clear hx)
    | (refine w_yes _ _ _ rfl rfl rfl ?_; refine w_new Try.elI (o := ⟨some 7, _, _, _, _, _⟩) (i64s [128]) rfl rfl rfl (i64s_cells _) rfl (by omega) ?_; intro vp w3 hx ho3; have h0 : Ints _ vp L := by { rw [hL.out]; exact OwnI.ints ho3 }; replace h0 := hide_ h0; replace hX := hX.trans hx; clear ho3 hx)
    | fail) <;> (try simp only [Act.put, List.setIfInBounds_toArray, List.set_cons_zero, List.set_cons_succ]))
  go_ret
  exact Keep.intro ⟨rfl, hX⟩

set_option maxRecDepth 100000 in
theorem lotNames_lifted (os : Os) (started : os.Started) (H : Type) (enc : TypeId × Value → H) :
    ReturnsInHanded {} Try.checked os 3 .any (Rows.lotNamesSpec.pre6 enc Try.prog Try.f3 Rows.lotNamesRow.domain false) (Rows.lotNamesSpec.post enc Try.prog Try.f3 false true false false) := by
  refine law_lifted (s := Rows.lotNamesSpec) (conds := Rows.lotNamesRow.domain) Try.func3 (by kernel_rfl) rfl (fun H ds h => by
      rw [show Try.f3.params.size = 0 from rfl] at h
      obtain rfl : ds = [] := List.eq_nil_of_length_eq_zero h
      rfl) rfl rfl (by decide +kernel) os started H enc
    (ChangeSpec.witness6 (enc := enc) (C := Try.checked) false ⟨#[], #[], []⟩ 8 (by kernel_rfl) (by kernel_rfl) (by kernel_rfl) (by kernel_rfl)) ?_
  intro W base args ds p hval hA hsz _
  obtain rfl : args = #[] := by cases args with | mk l => cases l with | nil => rfl | cons v vs => cases ds <;> exact hA.elim
  exact lotNames_any W

theorem lotNames_holds : Rows.LotNamesSaid :=
  OpenClaim.holds_of_wide 3 Try.f3 rfl rfl rfl rfl rfl rfl rfl ⟨rfl, rfl, rfl, rfl, rfl⟩ rfl rfl rfl rfl rfl (by kernel_rfl) Try.func3 (by kernel_rfl)
    (of_decide_eq_true (by kernel_rfl)) (by unfold Func.isWrapper; first | (rw [if_pos (by decide +kernel)]; kernel_rfl) | (rw [if_neg (by decide +kernel)]; exact ⟨rfl, rfl⟩))
    (fun os started H enc _ => lotNames_lifted os started H enc)
#print axioms lotNames_holds

end Go.Proofs.Ytnbnbnjojnlcpaa
