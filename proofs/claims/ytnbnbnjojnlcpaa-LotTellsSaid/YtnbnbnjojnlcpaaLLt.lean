/- The statement LotTells: which draws can be; who wins where. No condition. -/
import Derived.Test.YtnbnbnjojnlcpaaLotLa
import Derived.Test.YtnbnbnjojnlcpaaArgI
namespace Go.Proofs.Ytnbnbnjojnlcpaa
open Go.RowKit Go.ChangeShapes Go.WideShapes Go.ChangeAt

set_option maxRecDepth 100000 in
set_option maxHeartbeats 1600000 in
theorem lotTells_law (v : Value) (l : List Int) (s n : Int) (W : World) (h0 : Ints W v l) (hI : I64s l) :
    Calls Try.prog 4 #[v, .int .i64 s, .int .i64 n] W fun e w' => e = .returned (.bool true) ∧ Ext W w' := by
  refine calls_keep ?_
  replace h0 := hide_ h0
  replace hI := hide_ hI
  by_cases hD : DrOk l
  · have e0 := hide_ (show lchk l = 0 from if_pos hD)
    replace hD := hide_ hD
    obtain ⟨b, hb0⟩ : ∃ b, win l s n = b := ⟨_, rfl⟩
    obtain ⟨A, hA0⟩ : ∃ A, wns l s = A := ⟨_, rfl⟩
    obtain ⟨B, hB0⟩ : ∃ B, sls l n = B := ⟨_, rfl⟩
    have hb := hide_ hb0
    have hA := hide_ hA0
    have hB := hide_ hB0
    clear hb0 hA0 hB0
    go_enter Try.func4, Try.ntmps4
    go_wp2_with (first
      | (go_at_call 8; refine (lotAlive_any _).mono ?_; rintro e w4 ⟨rfl, hX⟩; replace h0 := hide_ (h0.out.ext hX))
      | (go_at_call 9; refine (Check_any h0.out hI.out).mono ?_; rintro e w4 ⟨rfl, hx⟩; rw [e0.out]; replace hX := hX.trans hx; replace h0 := hide_ (h0.out.ext hx); clear hx)
      | (go_at_call 12; refine (refCheck_any h0.out).mono ?_; rintro e w4 ⟨rfl, hx⟩; rw [e0.out]; replace hX := hX.trans hx; replace h0 := hide_ (h0.out.ext hx); clear hx)
      | (go_at_call 11; refine (Wins_any hD.out h0.out).mono ?_; rintro e w4 ⟨rfl, hx⟩; rw [hb.out]; replace hX := hX.trans hx; replace h0 := hide_ (h0.out.ext hx); clear hx)
      | (go_at_call 13; refine (refWins_any hD.out h0.out).mono ?_; rintro e w4 ⟨rfl, hx⟩; rw [hb.out]; replace hX := hX.trans hx; replace h0 := hide_ (h0.out.ext hx); clear hx)
      | (go_at_call 15; refine (Winners_any hD.out h0.out).mono ?_; rintro e w4 ⟨v1, rfl, i1, hx⟩; rw [hA.out] at i1; replace i1 := hide_ i1; replace hX := hX.trans hx; replace h0 := hide_ (h0.out.ext hx); clear hx)
      | (go_at_call 17; refine (Slots_any hD.out h0.out).mono ?_; rintro e w4 ⟨v1, rfl, i1, hx⟩; rw [hB.out] at i1; replace i1 := hide_ i1; replace hX := hX.trans hx; replace h0 := hide_ (h0.out.ext hx); clear hx)
      | (go_at_call 16; refine (refWinners_any hD.out h0.out).mono ?_; rintro e w4 ⟨v2, rfl, i2, hx⟩; rw [hA.out] at i2; replace i2 := hide_ i2; replace hX := hX.trans hx; replace i1 := hide_ (i1.out.ext hx); replace h0 := hide_ (h0.out.ext hx); clear hx)
      | (go_at_call 18; refine (refSlots_any hD.out h0.out).mono ?_; rintro e w4 ⟨v2, rfl, i2, hx⟩; rw [hB.out] at i2; replace i2 := hide_ i2; replace hX := hX.trans hx; replace i1 := hide_ (i1.out.ext hx); replace h0 := hide_ (h0.out.ext hx); clear hx)
      | (go_at_call 14; refine (SameInts_any _ _ _ _ i1.out i2.out).mono ?_; rintro e w4 ⟨rfl, hx⟩; replace hX := hX.trans hx; replace h0 := hide_ (h0.out.ext hx); clear hx i1 i2)
      | fail)
    go_ret
    exact Keep.intro ⟨rfl, hX⟩
  · have e0 := hide_ (show lchk l = 101 from if_neg hD)
    clear hD
    go_enter Try.func4, Try.ntmps4
    go_wp2_with (first
      | (go_at_call 8; refine (lotAlive_any _).mono ?_; rintro e w4 ⟨rfl, hX⟩; replace h0 := hide_ (h0.out.ext hX))
      | (go_at_call 9; refine (Check_any h0.out hI.out).mono ?_; rintro e w4 ⟨rfl, hx⟩; rw [e0.out]; replace hX := hX.trans hx; replace h0 := hide_ (h0.out.ext hx); clear hx)
      | (go_at_call 12; refine (refCheck_any h0.out).mono ?_; rintro e w4 ⟨rfl, hx⟩; rw [e0.out]; replace hX := hX.trans hx; replace h0 := hide_ (h0.out.ext hx); clear hx)
      | fail)
    go_ret
    exact Keep.intro ⟨rfl, hX⟩

set_option maxRecDepth 100000 in
theorem lotTells_lifted (os : Os) (started : os.Started) (H : Type) (enc : TypeId × Value → H) :
    ReturnsInHanded {} Try.checked os 4 .any (Rows.lotTellsSpec.pre6 enc Try.prog Try.f4 Rows.lotTellsRow.domain false) (Rows.lotTellsSpec.post enc Try.prog Try.f4 false true false false) := by
  refine law_lifted (s := Rows.lotTellsSpec) (conds := Rows.lotTellsRow.domain) Try.func4 (by kernel_rfl) rfl (fun H ds h => by
      rw [show Try.f4.params.size = 3 from rfl] at h
      match ds, h with
      | [d0, d1, d2], _ => rfl) rfl rfl (by decide +kernel) os started H enc
    (ChangeSpec.witness6 (enc := enc) (C := Try.checked) false ⟨#[], #[.slice none 0 0, .int .i64 0, .int .i64 0], []⟩ 8 (by kernel_rfl) (by kernel_rfl) (by kernel_rfl) (by kernel_rfl)) ?_
  intro W base args ds p hval hA hsz _
  have hp : Try.f4.params.toList = [25, 3, 3] := rfl
  rw [hp] at hA hsz
  obtain ⟨v0, v1, v2, d0, d1, d2, p0, p1, p2, rfl, rfl, rfl, h0, h1, h2⟩ := trodAll_three hA
  obtain ⟨l0, a0, b0, c0⟩ := arg_ints hsz (j := 0) rfl rfl (hval 0 25 v0 rfl rfl) h0
  obtain ⟨a1, rfl, b1, c1⟩ := arg_int (hval 1 3 v1 rfl rfl) h1
  obtain ⟨a2, rfl, b2, c2⟩ := arg_int (hval 2 3 v2 rfl rfl) h2
  exact lotTells_law v0 l0 a1 a2 W a0 b0

theorem lotTells_holds : Rows.LotTellsSaid :=
  OpenClaim.holds_of_wide 4 Try.f4 rfl rfl rfl rfl rfl rfl rfl ⟨rfl, rfl, rfl, rfl, rfl⟩ rfl rfl rfl rfl rfl (by kernel_rfl) Try.func4 (by kernel_rfl)
    (of_decide_eq_true (by kernel_rfl)) (by unfold Func.isWrapper; first | (rw [if_pos (by decide +kernel)]; kernel_rfl) | (rw [if_neg (by decide +kernel)]; exact ⟨rfl, rfl⟩))
    (fun os started H enc _ => lotTells_lifted os started H enc)
#print axioms lotTells_holds

end Go.Proofs.Ytnbnbnjojnlcpaa
