/- The statement BlockParts: the slot and the miner of any number are the document's. No condition. -/
import Derived.Test.YtcjmcnepfnhnlaaBNames
namespace Go.Proofs.Ytcjmcnepfnhnlaa
open Go.RowKit Go.ChangeShapes Go.WideShapes Go.ChangeAt

set_option maxRecDepth 100000 in
set_option maxHeartbeats 800000 in
theorem blockParts_law (n : Int) (W : World) (h : I64 n) : Calls Try.prog 5 #[.int .i64 n] W fun e w' => e = .returned (.bool true) ∧ Ext W w' := by
  refine calls_keep ?_
  by_cases hn : NmOk n
  · have hok := hide_ (decide_eq_true hn)
    have hs := hide_ (show nmS n = ptS n from by rw [nmS, if_pos hn, ptS, if_neg (by have := hn.pos; omega)])
    have hm := hide_ (show nmM n = ptM n from by rw [nmM, if_pos hn, ptM, if_neg (by have := hn.pos; omega)])
    clear hn
    go_enter Try.func5, Try.ntmps5
    go_wp2_with (first
      | (go_at_call 20; refine (Parts_any n h.1 h.2 _).mono ?_; rintro e w1 ⟨rfl, hX⟩; rw [hok.out])
      | (go_at_call 11; refine (alive_any _).mono ?_; rintro e w2 ⟨rfl, hx⟩; replace hX := hX.trans hx; clear hx)
      | (go_at_call 21; refine (Slot_any n h.1 h.2 _).mono ?_; rintro e w3 ⟨rfl, hx⟩; rw [hs.out]; replace hX := hX.trans hx; clear hx)
      | (go_at_call 22; refine (Miner_any n h.1 h.2 _).mono ?_; rintro e w4 ⟨rfl, hx⟩; rw [hm.out]; replace hX := hX.trans hx; clear hx)
      | fail)
    go_ret
    exact Keep.intro ⟨rfl, hX⟩
  · have hok := hide_ (decide_eq_false hn)
    have hs := hide_ (show nmS n = 0 from if_neg hn)
    have hm := hide_ (show nmM n = 0 from if_neg hn)
    clear hn
    go_enter Try.func5, Try.ntmps5
    go_wp2_with (first
      | (go_at_call 20; refine (Parts_any n h.1 h.2 _).mono ?_; rintro e w1 ⟨rfl, hX⟩; rw [hok.out])
      | (go_at_call 11; refine (alive_any _).mono ?_; rintro e w2 ⟨rfl, hx⟩; replace hX := hX.trans hx; clear hx)
      | (go_at_call 21; refine (Slot_any n h.1 h.2 _).mono ?_; rintro e w3 ⟨rfl, hx⟩; rw [hs.out]; replace hX := hX.trans hx; clear hx)
      | (go_at_call 22; refine (Miner_any n h.1 h.2 _).mono ?_; rintro e w4 ⟨rfl, hx⟩; rw [hm.out]; replace hX := hX.trans hx; clear hx)
      | fail)
    go_ret
    exact Keep.intro ⟨rfl, hX⟩

set_option maxRecDepth 100000 in
theorem blockParts_lifted (os : Os) (started : os.Started) (H : Type) (enc : TypeId × Value → H) :
    ReturnsInHanded {} Try.checked os 5 .any (Rows.blockPartsSpec.pre6 enc Try.prog Try.f5 Rows.blockPartsRow.domain false) (Rows.blockPartsSpec.post enc Try.prog Try.f5 false true false false) := by
  refine law_lifted (s := Rows.blockPartsSpec) (conds := Rows.blockPartsRow.domain) Try.func5 (by kernel_rfl) rfl (fun H ds h => by
      rw [show Try.f5.params.size = 1 from rfl] at h
      match ds, h with
      | [d0], _ => rfl) rfl rfl (by decide +kernel) os started H enc
    (ChangeSpec.witness6 (enc := enc) (C := Try.checked) false ⟨#[], #[.int .i64 0], []⟩ 8 (by kernel_rfl) (by kernel_rfl) (by kernel_rfl) (by kernel_rfl)) ?_
  intro W base args ds p hval hA hsz _
  have hp : Try.f5.params.toList = [3] := rfl
  rw [hp] at hA hsz
  obtain ⟨v0, d0, rfl, rfl, h0⟩ := trodAll_one hA
  obtain ⟨a0, rfl, b0, c0⟩ := arg_int (hval 0 3 v0 rfl rfl) h0
  exact blockParts_law a0 W ⟨b0, c0⟩

theorem blockParts_holds : Rows.BlockPartsSaid :=
  OpenClaim.holds_of_wide 5 Try.f5 rfl rfl rfl rfl rfl rfl rfl ⟨rfl, rfl, rfl, rfl, rfl⟩ rfl rfl rfl rfl rfl (by kernel_rfl) Try.func5 (by kernel_rfl)
    (of_decide_eq_true (by kernel_rfl)) (by unfold Func.isWrapper; first | (rw [if_pos (by decide +kernel)]; kernel_rfl) | (rw [if_neg (by decide +kernel)]; exact ⟨rfl, rfl⟩))
    (fun os started H enc _ => blockParts_lifted os started H enc)
#print axioms blockParts_holds

end Go.Proofs.Ytcjmcnepfnhnlaa
