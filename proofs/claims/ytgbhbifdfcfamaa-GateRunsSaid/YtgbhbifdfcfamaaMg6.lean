/- name, empty and Same of the document's messages. -/
import Derived.Test.YtgbhbifdfcfamaaMg2
namespace Go.Proofs.Ytgbhbifdfcfamaa
set_option maxRecDepth 100000
open Go.RowKit

set_option maxRecDepth 100000 in
set_option maxHeartbeats 800000 in
theorem name_any (n : Int) (hn : I64 n) (w : World) : Calls Try.prog 56 #[.int .i64 n] w fun e w' => e = .returned (.bool (decide (NV n))) ∧ Ext w w' := by
  refine calls_keep ?_
  by_cases h0 : n = 0
  · have t0 : (n == 0) = true := by simpa using h0
    have hdec := hide_ (show decide (NV n) = true from decide_eq_true (.inl h0))
    clear h0
    go_enter Try.func56, Try.ntmps56
    go_wp2_with (first
      | (go_at_call 54; refine (Parts_any n hn.1 hn.2 _).mono ?_; rintro e w2 ⟨rfl, hX⟩)
      | fail)
    go_ret
    exact Keep.intro ⟨by rw [hdec.out]; rfl, hX⟩
  · have t0 : (n == 0) = false := by simpa using h0
    have hdec := hide_ (show decide (NV n) = decide (NmOk n) from decide_eq_decide.2 (or_iff_right h0))
    clear h0
    go_enter Try.func56, Try.ntmps56
    go_wp2_with (first
      | (go_at_call 54; refine (Parts_any n hn.1 hn.2 _).mono ?_; rintro e w2 ⟨rfl, hX⟩)
      | fail)
    go_ret
    exact Keep.intro ⟨by rw [hdec.out]; rfl, hX⟩
set_option maxRecDepth 100000 in
set_option maxHeartbeats 800000 in
theorem empty_any {w : World} {u : Value} {b : BlkD} (hu : Recs 2 TxR w u b.txs) : Calls Try.prog 55 #[.agg (bRw b u).toArray] w fun e w' => e = .returned (.bool (decide (b = BlkD.zero))) ∧ Ext w w' := by
  refine calls_keep ?_
  replace hu := hide_ hu
  have hdec := hide_ (show b.same BlkD.zero = decide (b = BlkD.zero) from by
    cases hq : b.same BlkD.zero with
    | true => exact (decide_eq_true (BlkD.same_iff.1 hq)).symm
    | false => exact (decide_eq_false fun h => by rw [BlkD.same_iff.2 h] at hq; cases hq).symm)
  go_enter Try.func55, Try.ntmps55
  go_wp2_with ((first
    | ((with_reducible refine at_box ?_); refine w_box _ (bRw b u) rfl rfl rfl rfl ?_; intro g1 w1 hg1 hX f1)
    | (go_at_call 18; refine (refBSame_any (b := b) (b2 := BlkD.zero) (u := u) (u2 := .slice none 0 0) (hu.out.ext TxR.stays hX) (OwnT.nil 0 _).recs).mono ?_; rintro e w3 ⟨rfl, hx⟩; replace hX := hX.trans hx; clear hx)
    | ((with_reducible refine at_load ?_); refine w_loadN Try.stBlkM _ (bRw b u) rfl rfl rfl f1 rfl mself_at ?_)
    | ((with_reducible refine at_sbuild ?_); refine w_sbuild Try.stBlk [.int .i64 0, .int .i64 0, .int .i64 0, .int .i64 0, .slice none 0 0] rfl rfl rfl (by intro p hp; simp at hp) ?_)
    | fail) <;> (try simp only [Act.put, List.setIfInBounds_toArray, List.set_cons_zero, List.set_cons_succ]))
  go_ret
  exact Keep.intro ⟨by rw [← hdec.out]; rfl, hX⟩

end Go.Proofs.Ytgbhbifdfcfamaa
