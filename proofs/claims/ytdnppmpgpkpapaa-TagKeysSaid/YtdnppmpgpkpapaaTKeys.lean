/- The statement TagKeys: any node's key. No condition. -/
import Derived.Test.YtdnppmpgpkpapaaTNames
namespace Go.Proofs.Ytdnppmpgpkpapaa
open Go.RowKit Go.ChangeShapes Go.WideShapes Go.ChangeAt

set_option maxRecDepth 100000 in
theorem tagKeys_law (n : Int) (w : World) : Calls Try.prog 4 #[.int .i64 n] w fun e w' => e = .returned (.bool true) ∧ Ext w w' := by
  refine calls_keep ?_
  go_enter Try.func4, Try.ntmps4
  go_wp2_with (first
    | (go_at_call 3; refine (tagNames_any _).mono ?_; rintro e w1 ⟨rfl, hx1⟩)
    | (go_at_call 9; refine (Key_any n _).mono ?_; rintro e w2 ⟨rfl, rfl⟩)
    | (go_at_call 12; refine (RefKey_any n _).mono ?_; rintro e w3 ⟨rfl, rfl⟩))
  go_ret
  exact Keep.intro ⟨rfl, hx1⟩

set_option maxRecDepth 100000 in
theorem tagKeys_lifted (os : Os) (started : os.Started) (H : Type) (enc : TypeId × Value → H) :
    ReturnsInHanded {} Try.checked os 4 .any (Rows.tagKeysSpec.pre6 enc Try.prog Try.f4 Rows.tagKeysRow.domain false) (Rows.tagKeysSpec.post enc Try.prog Try.f4 false true false false) := by
  refine law_lifted (s := Rows.tagKeysSpec) (conds := Rows.tagKeysRow.domain) Try.func4 (by kernel_rfl) rfl (fun H ds h => by
      rw [show Try.f4.params.size = 1 from rfl] at h
      match ds, h with
      | [d0], _ => rfl) rfl rfl (by decide +kernel) os started H enc
    (ChangeSpec.witness6 (enc := enc) (C := Try.checked) false ⟨#[], #[.int .i64 0], []⟩ 8 (by kernel_rfl) (by kernel_rfl) (by kernel_rfl) (by kernel_rfl)) ?_
  intro W base args ds p hval hA hsz _
  have hp : Try.f4.params.toList = [3] := rfl
  rw [hp] at hA hsz
  obtain ⟨v0, d0, rfl, rfl, h0⟩ := trodAll_one hA
  obtain ⟨a0, rfl, b0, c0⟩ := arg_int (hval 0 3 v0 rfl rfl) h0
  exact tagKeys_law a0 W

theorem tagKeys_holds : Rows.TagKeysSaid :=
  OpenClaim.holds_of_wide 4 Try.f4 rfl rfl rfl rfl rfl rfl rfl ⟨rfl, rfl, rfl, rfl, rfl⟩ rfl rfl rfl rfl rfl (by kernel_rfl) Try.func4 (by kernel_rfl)
    (of_decide_eq_true (by kernel_rfl)) (by unfold Func.isWrapper; first | (rw [if_pos (by decide +kernel)]; kernel_rfl) | (rw [if_neg (by decide +kernel)]; exact ⟨rfl, rfl⟩))
    (fun os started H enc _ => tagKeys_lifted os started H enc)
#print axioms tagKeys_holds

end Go.Proofs.Ytdnppmpgpkpapaa
