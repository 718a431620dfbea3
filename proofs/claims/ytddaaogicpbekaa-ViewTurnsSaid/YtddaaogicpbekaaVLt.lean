/- The statement ViewTurns: whose turn it is, of any numbers. No condition. -/
import Derived.Test.YtddaaogicpbekaaVwR
import Derived.Test.YtddaaogicpbekaaVLn
namespace Go.Proofs.Ytddaaogicpbekaa
open Go.RowKit Go.ChangeShapes Go.WideShapes Go.ChangeAt

set_option maxRecDepth 100000 in
set_option maxHeartbeats 1600000 in
theorem viewTurns_law (i v n : Int) (W : World) : Calls Try.prog 4 #[.int .i64 i, .int .i64 v, .int .i64 n] W fun e w' => e = .returned (.bool true) ∧ Ext W w' := by
  refine calls_keep ?_
  have hX := Ext.refl W
  obtain ⟨r, hr0⟩ : ∃ r, ldr i v n = r := ⟨_, rfl⟩
  have hr := hide_ hr0
  clear hr0
  go_enter Try.func4, Try.ntmps4
  go_wp2_with (first
    | (go_at_call 3; refine (viewNames_any _).mono ?_; rintro e w4 ⟨rfl, hx⟩; replace hX := hX.trans hx; clear hx)
    | (go_at_call 10; refine Leader_any.mono ?_; rintro e w4 ⟨rfl, hx⟩; rw [hr.out]; replace hX := hX.trans hx; clear hx)
    | (go_at_call 11; refine RLeader_any.mono ?_; rintro e w4 ⟨rfl, hx⟩; rw [hr.out]; replace hX := hX.trans hx; clear hx)
    | fail)
  go_ret
  exact Keep.intro ⟨rfl, hX⟩

set_option maxRecDepth 100000 in
theorem viewTurns_lifted (os : Os) (started : os.Started) (H : Type) (enc : TypeId × Value → H) :
    ReturnsInHanded {} Try.checked os 4 .any (Rows.viewTurnsSpec.pre6 enc Try.prog Try.f4 Rows.viewTurnsRow.domain false) (Rows.viewTurnsSpec.post enc Try.prog Try.f4 false true false false) := by
  refine law_lifted (s := Rows.viewTurnsSpec) (conds := Rows.viewTurnsRow.domain) Try.func4 (by kernel_rfl) rfl (fun H ds h => by
      rw [show Try.f4.params.size = 3 from rfl] at h
      match ds, h with
      | [d0, d1, d2], _ => rfl) rfl rfl (by decide +kernel) os started H enc
    (ChangeSpec.witness6 (enc := enc) (C := Try.checked) false ⟨#[], #[.int .i64 0, .int .i64 0, .int .i64 0], []⟩ 8 (by kernel_rfl) (by kernel_rfl) (by kernel_rfl) (by kernel_rfl)) ?_
  intro W base args ds p hval hA hsz _
  have hp : Try.f4.params.toList = [3, 3, 3] := rfl
  rw [hp] at hA hsz
  obtain ⟨v0, v1, v2, d0, d1, d2, p0, p1, p2, rfl, rfl, rfl, h0, h1, h2⟩ := trodAll_three hA
  obtain ⟨a0, rfl, b0, c0⟩ := arg_int (hval 0 3 v0 rfl rfl) h0
  obtain ⟨a1, rfl, b1, c1⟩ := arg_int (hval 1 3 v1 rfl rfl) h1
  obtain ⟨a2, rfl, b2, c2⟩ := arg_int (hval 2 3 v2 rfl rfl) h2
  exact viewTurns_law a0 a1 a2 W

theorem viewTurns_holds : Rows.ViewTurnsSaid :=
  OpenClaim.holds_of_wide 4 Try.f4 rfl rfl rfl rfl rfl rfl rfl ⟨rfl, rfl, rfl, rfl, rfl⟩ rfl rfl rfl rfl rfl (by kernel_rfl) Try.func4 (by kernel_rfl)
    (of_decide_eq_true (by kernel_rfl)) (by unfold Func.isWrapper; first | (rw [if_pos (by decide +kernel)]; kernel_rfl) | (rw [if_neg (by decide +kernel)]; exact ⟨rfl, rfl⟩))
    (fun os started H enc _ => viewTurns_lifted os started H enc)
#print axioms viewTurns_holds

end Go.Proofs.Ytddaaogicpbekaa
