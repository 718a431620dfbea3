/- The statement LotSingles: whether in each slot at most one wins, and only some. No condition. -/
import Derived.Test.YtnbnbnjojnlcpaaLotLa
import Derived.Test.YtnbnbnjojnlcpaaArgI
namespace Go.Proofs.Ytnbnbnjojnlcpaa
open Go.RowKit Go.ChangeShapes Go.WideShapes Go.ChangeAt

set_option maxRecDepth 100000 in
set_option maxHeartbeats 1600000 in
theorem lotSingles_law (v u : Value) (l who : List Int) (W : World) (h0 : Ints W v l) (hu : Ints W u who) :
    Calls Try.prog 5 #[v, u] W fun e w' => e = .returned (.bool true) ∧ Ext W w' := by
  refine calls_keep ?_
  replace h0 := hide_ h0
  replace hu := hide_ hu
  by_cases hD : DrOk l
  · have e0 := hide_ (show lchk l = 0 from if_pos hD)
    replace hD := hide_ hD
    obtain ⟨b, hb0⟩ : ∃ b, sgl l who = b := ⟨_, rfl⟩
    have hb := hide_ hb0
    clear hb0
    go_enter Try.func5, Try.ntmps5
    go_wp2_with (first
      | (go_at_call 8; refine (lotAlive_any _).mono ?_; rintro e w4 ⟨rfl, hX⟩)
      | (go_at_call 12; refine (refCheck_any (h0.out.ext hX)).mono ?_; rintro e w4 ⟨rfl, hx⟩; rw [e0.out]; replace hX := hX.trans hx; clear hx)
      | (go_at_call 10; refine (Single_any hD.out (h0.out.ext hX) (hu.out.ext hX)).mono ?_; rintro e w4 ⟨rfl, hx⟩; rw [hb.out]; replace hX := hX.trans hx; clear hx)
      | (go_at_call 19; refine (refSingle_any hD.out (h0.out.ext hX) (hu.out.ext hX)).mono ?_; rintro e w4 ⟨rfl, hx⟩; rw [hb.out]; replace hX := hX.trans hx; clear hx)
      | fail)
    go_ret
    exact Keep.intro ⟨rfl, hX⟩
  · have e0 := hide_ (show lchk l = 101 from if_neg hD)
    clear hD
    go_enter Try.func5, Try.ntmps5
    go_wp2_with (first
      | (go_at_call 8; refine (lotAlive_any _).mono ?_; rintro e w4 ⟨rfl, hX⟩)
      | (go_at_call 12; refine (refCheck_any (h0.out.ext hX)).mono ?_; rintro e w4 ⟨rfl, hx⟩; rw [e0.out]; replace hX := hX.trans hx; clear hx)
      | fail)
    go_ret
    exact Keep.intro ⟨rfl, hX⟩

set_option maxRecDepth 100000 in
theorem lotSingles_lifted (os : Os) (started : os.Started) (H : Type) (enc : TypeId × Value → H) :
    ReturnsInHanded {} Try.checked os 5 .any (Rows.lotSinglesSpec.pre6 enc Try.prog Try.f5 Rows.lotSinglesRow.domain false) (Rows.lotSinglesSpec.post enc Try.prog Try.f5 false true false false) := by
  refine law_lifted (s := Rows.lotSinglesSpec) (conds := Rows.lotSinglesRow.domain) Try.func5 (by kernel_rfl) rfl (fun H ds h => by
      rw [show Try.f5.params.size = 2 from rfl] at h
      match ds, h with
      | [d0, d1], _ => rfl) rfl rfl (by decide +kernel) os started H enc
    (ChangeSpec.witness6 (enc := enc) (C := Try.checked) false ⟨#[], #[.slice none 0 0, .slice none 0 0], []⟩ 8 (by kernel_rfl) (by kernel_rfl) (by kernel_rfl) (by kernel_rfl)) ?_
  intro W base args ds p hval hA hsz _
  have hp : Try.f5.params.toList = [25, 25] := rfl
  rw [hp] at hA hsz
  obtain ⟨v0, v1, d0, d1, p0, p1, rfl, rfl, rfl, h0, h1⟩ := trodAll_two hA
  obtain ⟨l0, a0, b0, c0⟩ := arg_ints hsz (j := 0) rfl rfl (hval 0 25 v0 rfl rfl) h0
  obtain ⟨l1, a1, b1, c1⟩ := arg_ints hsz (j := 1) rfl rfl (hval 1 25 v1 rfl rfl) h1
  exact lotSingles_law v0 v1 l0 l1 W a0 a1

theorem lotSingles_holds : Rows.LotSinglesSaid :=
  OpenClaim.holds_of_wide 5 Try.f5 rfl rfl rfl rfl rfl rfl rfl ⟨rfl, rfl, rfl, rfl, rfl⟩ rfl rfl rfl rfl rfl (by kernel_rfl) Try.func5 (by kernel_rfl)
    (of_decide_eq_true (by kernel_rfl)) (by unfold Func.isWrapper; first | (rw [if_pos (by decide +kernel)]; kernel_rfl) | (rw [if_neg (by decide +kernel)]; exact ⟨rfl, rfl⟩))
    (fun os started H enc _ => lotSingles_lifted os started H enc)
#print axioms lotSingles_holds

end Go.Proofs.Ytnbnbnjojnlcpaa
