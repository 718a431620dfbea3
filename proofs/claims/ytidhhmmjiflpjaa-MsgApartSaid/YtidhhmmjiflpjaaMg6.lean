/- name, empty and Same of the document's messages. -/
import Derived.Test.YtidhhmmjiflpjaaMg2
namespace Go.Proofs.Ytidhhmmjiflpjaa
set_option maxRecDepth 100000
open Go.RowKit

set_option maxRecDepth 100000 in
set_option maxHeartbeats 800000 in
theorem name_any (n : Int) (hn : I64 n) (w : World) : Calls Try.prog 38 #[.int .i64 n] w fun e w' => e = .returned (.bool (decide (NV n))) ∧ Ext w w' := by
  refine calls_keep ?_
  by_cases h0 : n = 0
  · have t0 : (n == 0) = true := by simpa using h0
    have hdec := hide_ (show decide (NV n) = true from decide_eq_true (.inl h0))
    clear h0
    go_enter Try.func38, Try.ntmps38
    go_wp2_with (first
      | (go_at_call 58; refine (Parts_any n hn.1 hn.2 _).mono ?_; rintro e w2 ⟨rfl, hX⟩)
      | fail)
    go_ret
    exact Keep.intro ⟨by rw [hdec.out]; rfl, hX⟩
  · have t0 : (n == 0) = false := by simpa using h0
    have hdec := hide_ (show decide (NV n) = decide (NmOk n) from decide_eq_decide.2 (or_iff_right h0))
    clear h0
    go_enter Try.func38, Try.ntmps38
    go_wp2_with (first
      | (go_at_call 58; refine (Parts_any n hn.1 hn.2 _).mono ?_; rintro e w2 ⟨rfl, hX⟩)
      | fail)
    go_ret
    exact Keep.intro ⟨by rw [hdec.out]; rfl, hX⟩
set_option maxRecDepth 100000 in
set_option maxHeartbeats 800000 in
theorem empty_any {w : World} {u : Value} {b : BlkD} (hu : Recs 2 TxR w u b.txs) : Calls Try.prog 35 #[.agg (bRw b u).toArray] w fun e w' => e = .returned (.bool (decide (b = BlkD.zero))) ∧ Ext w w' := by
  refine calls_keep ?_
  replace hu := hide_ hu
  have hdec := hide_ (show b.same BlkD.zero = decide (b = BlkD.zero) from by
    cases hq : b.same BlkD.zero with
    | true => exact (decide_eq_true (BlkD.same_iff.1 hq)).symm
    | false => exact (decide_eq_false fun h => by rw [BlkD.same_iff.2 h] at hq; cases hq).symm)
  go_enter Try.func35, Try.ntmps35
  go_wp2_with ((first
    | ((with_reducible refine at_box ?_); refine w_box _ (bRw b u) rfl rfl rfl rfl ?_; intro g1 w1 hg1 hX f1)
    | (go_at_call 41; refine (refBSame_any (b := b) (b2 := BlkD.zero) (u := u) (u2 := .slice none 0 0) (hu.out.ext TxR.stays hX) (OwnT.nil 0 _).recs).mono ?_; rintro e w3 ⟨rfl, hx⟩; replace hX := hX.trans hx; clear hx)
    | ((with_reducible refine at_load ?_); refine w_loadN Try.stBlkM _ (bRw b u) rfl rfl rfl f1 rfl mself_at ?_)
    | ((with_reducible refine at_sbuild ?_); refine w_sbuild Try.stBlk [.int .i64 0, .int .i64 0, .int .i64 0, .int .i64 0, .slice none 0 0] rfl rfl rfl (by intro p hp; simp at hp) ?_)
    | fail) <;> (try simp only [Act.put, List.setIfInBounds_toArray, List.set_cons_zero, List.set_cons_succ]))
  go_ret
  exact Keep.intro ⟨by rw [← hdec.out]; rfl, hX⟩

set_option maxRecDepth 100000 in
set_option maxHeartbeats 3200000 in
theorem refMSame_any {w : World} {u1 u2 : Value} {a b : MsgD} (h1 : Recs 2 TxR w u1 a.bk.txs) (h2 : Recs 2 TxR w u2 b.bk.txs) : Calls Try.prog 15 #[.agg (mRow a u1).toArray, .agg (mRow b u2).toArray] w fun e w' => e = .returned (.bool (decide (a = b))) ∧ Ext w w' := by
  refine calls_keep ?_
  replace h1 := hide_ h1
  replace h2 := hide_ h2
  by_cases e0 : a.kd = b.kd
  rotate_left
  · have q0 : (a.kd != b.kd) = true := by simpa using e0
    have hdec := hide_ (show decide (a = b) = false from decide_eq_false fun h => e0 (congrArg MsgD.kd h))
    clear e0
    go_enter Try.func15, Try.ntmps15
    go_wp2_with ((first
      | go_big_skip
      | ((with_reducible refine at_box ?_); refine w_box (.tmp 0) (mRow a u1) rfl rfl rfl rfl ?_; intro g1 w1 hg1 hX f1)
      | ((with_reducible refine at_box ?_); refine w_box (.tmp 1) (mRow b u2) rfl rfl rfl rfl ?_; intro g2 w2 hg2 hx2 f2; replace f1 := f1.ext hx2; replace hX := hX.trans hx2; clear hx2)
      | ((with_reducible refine at_field ?_); (try refine w_yes _ _ _ rfl rfl rfl ?_); refine w_mfield _ _ _ rfl rfl rfl (by omega) ?_)
      | ((with_reducible refine at_load ?_); (try refine w_yes _ _ _ rfl rfl rfl ?_); refine w_fload _ rfl rfl rfl f1 rfl (agg_of (by kernel_rfl)) ?_)
      | ((with_reducible refine at_load ?_); (try refine w_yes _ _ _ rfl rfl rfl ?_); refine w_fload _ rfl rfl rfl f2 rfl (agg_of (by kernel_rfl)) ?_)
      | fail) <;> (try simp only [Act.put, List.setIfInBounds_toArray, List.set_cons_zero, List.set_cons_succ]))
    go_ret
    exact Keep.intro ⟨by rw [hdec.out]; rfl, hX⟩
  have q0 : (a.kd != b.kd) = false := by simpa using e0
  by_cases e1 : a.fm = b.fm
  rotate_left
  · have q1 : (a.fm != b.fm) = true := by simpa using e1
    have hdec := hide_ (show decide (a = b) = false from decide_eq_false fun h => e1 (congrArg MsgD.fm h))
    clear e0 e1
    go_enter Try.func15, Try.ntmps15
    go_wp2_with ((first
      | go_big_skip
      | ((with_reducible refine at_box ?_); refine w_box (.tmp 0) (mRow a u1) rfl rfl rfl rfl ?_; intro g1 w1 hg1 hX f1)
      | ((with_reducible refine at_box ?_); refine w_box (.tmp 1) (mRow b u2) rfl rfl rfl rfl ?_; intro g2 w2 hg2 hx2 f2; replace f1 := f1.ext hx2; replace hX := hX.trans hx2; clear hx2)
      | ((with_reducible refine at_field ?_); (try refine w_yes _ _ _ rfl rfl rfl ?_); refine w_mfield _ _ _ rfl rfl rfl (by omega) ?_)
      | ((with_reducible refine at_load ?_); (try refine w_yes _ _ _ rfl rfl rfl ?_); refine w_fload _ rfl rfl rfl f1 rfl (agg_of (by kernel_rfl)) ?_)
      | ((with_reducible refine at_load ?_); (try refine w_yes _ _ _ rfl rfl rfl ?_); refine w_fload _ rfl rfl rfl f2 rfl (agg_of (by kernel_rfl)) ?_)
      | fail) <;> (try simp only [Act.put, List.setIfInBounds_toArray, List.set_cons_zero, List.set_cons_succ]))
    go_ret
    exact Keep.intro ⟨by rw [hdec.out]; rfl, hX⟩
  have q1 : (a.fm != b.fm) = false := by simpa using e1
  by_cases e2 : a.ix = b.ix
  rotate_left
  · have q2 : (a.ix != b.ix) = true := by simpa using e2
    have hdec := hide_ (show decide (a = b) = false from decide_eq_false fun h => e2 (congrArg MsgD.ix h))
    clear e0 e1 e2
    go_enter Try.func15, Try.ntmps15
    go_wp2_with ((first
      | go_big_skip
      | ((with_reducible refine at_box ?_); refine w_box (.tmp 0) (mRow a u1) rfl rfl rfl rfl ?_; intro g1 w1 hg1 hX f1)
      | ((with_reducible refine at_box ?_); refine w_box (.tmp 1) (mRow b u2) rfl rfl rfl rfl ?_; intro g2 w2 hg2 hx2 f2; replace f1 := f1.ext hx2; replace hX := hX.trans hx2; clear hx2)
      | ((with_reducible refine at_field ?_); (try refine w_yes _ _ _ rfl rfl rfl ?_); refine w_mfield _ _ _ rfl rfl rfl (by omega) ?_)
      | ((with_reducible refine at_load ?_); (try refine w_yes _ _ _ rfl rfl rfl ?_); refine w_fload _ rfl rfl rfl f1 rfl (agg_of (by kernel_rfl)) ?_)
      | ((with_reducible refine at_load ?_); (try refine w_yes _ _ _ rfl rfl rfl ?_); refine w_fload _ rfl rfl rfl f2 rfl (agg_of (by kernel_rfl)) ?_)
      | fail) <;> (try simp only [Act.put, List.setIfInBounds_toArray, List.set_cons_zero, List.set_cons_succ]))
    go_ret
    exact Keep.intro ⟨by rw [hdec.out]; rfl, hX⟩
  have q2 : (a.ix != b.ix) = false := by simpa using e2
  by_cases e3 : a.vw = b.vw
  rotate_left
  · have q3 : (a.vw != b.vw) = true := by simpa using e3
    have hdec := hide_ (show decide (a = b) = false from decide_eq_false fun h => e3 (congrArg MsgD.vw h))
    clear e0 e1 e2 e3
    go_enter Try.func15, Try.ntmps15
    go_wp2_with ((first
      | go_big_skip
      | ((with_reducible refine at_box ?_); refine w_box (.tmp 0) (mRow a u1) rfl rfl rfl rfl ?_; intro g1 w1 hg1 hX f1)
      | ((with_reducible refine at_box ?_); refine w_box (.tmp 1) (mRow b u2) rfl rfl rfl rfl ?_; intro g2 w2 hg2 hx2 f2; replace f1 := f1.ext hx2; replace hX := hX.trans hx2; clear hx2)
      | ((with_reducible refine at_field ?_); (try refine w_yes _ _ _ rfl rfl rfl ?_); refine w_mfield _ _ _ rfl rfl rfl (by omega) ?_)
      | ((with_reducible refine at_load ?_); (try refine w_yes _ _ _ rfl rfl rfl ?_); refine w_fload _ rfl rfl rfl f1 rfl (agg_of (by kernel_rfl)) ?_)
      | ((with_reducible refine at_load ?_); (try refine w_yes _ _ _ rfl rfl rfl ?_); refine w_fload _ rfl rfl rfl f2 rfl (agg_of (by kernel_rfl)) ?_)
      | fail) <;> (try simp only [Act.put, List.setIfInBounds_toArray, List.set_cons_zero, List.set_cons_succ]))
    go_ret
    exact Keep.intro ⟨by rw [hdec.out]; rfl, hX⟩
  have q3 : (a.vw != b.vw) = false := by simpa using e3
  by_cases e4 : a.vl = b.vl
  rotate_left
  · have q4 : (a.vl != b.vl) = true := by simpa using e4
    have hdec := hide_ (show decide (a = b) = false from decide_eq_false fun h => e4 (congrArg MsgD.vl h))
    clear e0 e1 e2 e3 e4
    go_enter Try.func15, Try.ntmps15
    go_wp2_with ((first
      | go_big_skip
      | ((with_reducible refine at_box ?_); refine w_box (.tmp 0) (mRow a u1) rfl rfl rfl rfl ?_; intro g1 w1 hg1 hX f1)
      | ((with_reducible refine at_box ?_); refine w_box (.tmp 1) (mRow b u2) rfl rfl rfl rfl ?_; intro g2 w2 hg2 hx2 f2; replace f1 := f1.ext hx2; replace hX := hX.trans hx2; clear hx2)
      | ((with_reducible refine at_field ?_); (try refine w_yes _ _ _ rfl rfl rfl ?_); refine w_mfield _ _ _ rfl rfl rfl (by omega) ?_)
      | ((with_reducible refine at_load ?_); (try refine w_yes _ _ _ rfl rfl rfl ?_); refine w_fload _ rfl rfl rfl f1 rfl (agg_of (by kernel_rfl)) ?_)
      | ((with_reducible refine at_load ?_); (try refine w_yes _ _ _ rfl rfl rfl ?_); refine w_fload _ rfl rfl rfl f2 rfl (agg_of (by kernel_rfl)) ?_)
      | fail) <;> (try simp only [Act.put, List.setIfInBounds_toArray, List.set_cons_zero, List.set_cons_succ]))
    go_ret
    exact Keep.intro ⟨by rw [hdec.out]; rfl, hX⟩
  have q4 : (a.vl != b.vl) = false := by simpa using e4
  by_cases e5 : a.pr = b.pr
  rotate_left
  · have q5 : (a.pr != b.pr) = true := by simpa using e5
    have hdec := hide_ (show decide (a = b) = false from decide_eq_false fun h => e5 (congrArg MsgD.pr h))
    clear e0 e1 e2 e3 e4 e5
    go_enter Try.func15, Try.ntmps15
    go_wp2_with ((first
      | go_big_skip
      | ((with_reducible refine at_box ?_); refine w_box (.tmp 0) (mRow a u1) rfl rfl rfl rfl ?_; intro g1 w1 hg1 hX f1)
      | ((with_reducible refine at_box ?_); refine w_box (.tmp 1) (mRow b u2) rfl rfl rfl rfl ?_; intro g2 w2 hg2 hx2 f2; replace f1 := f1.ext hx2; replace hX := hX.trans hx2; clear hx2)
      | ((with_reducible refine at_field ?_); (try refine w_yes _ _ _ rfl rfl rfl ?_); refine w_mfield _ _ _ rfl rfl rfl (by omega) ?_)
      | ((with_reducible refine at_load ?_); (try refine w_yes _ _ _ rfl rfl rfl ?_); refine w_fload _ rfl rfl rfl f1 rfl (agg_of (by kernel_rfl)) ?_)
      | ((with_reducible refine at_load ?_); (try refine w_yes _ _ _ rfl rfl rfl ?_); refine w_fload _ rfl rfl rfl f2 rfl (agg_of (by kernel_rfl)) ?_)
      | fail) <;> (try simp only [Act.put, List.setIfInBounds_toArray, List.set_cons_zero, List.set_cons_succ]))
    go_ret
    exact Keep.intro ⟨by rw [hdec.out]; rfl, hX⟩
  have q5 : (a.pr != b.pr) = false := by simpa using e5
  have e6 : [a.kd, a.fm, a.ix, a.vw, a.vl, a.pr] = [b.kd, b.fm, b.ix, b.vw, b.vl, b.pr] := by rw [e0, e1, e2, e3, e4, e5]
  clear e0 e1 e2 e3 e4 e5
  by_cases e7 : a.tx = b.tx
  rotate_left
  · have t2 := decide_eq_false e7
    have hdec := hide_ (show decide (a = b) = false from decide_eq_false fun h => e7 (congrArg MsgD.tx h))
    clear e6 e7
    go_enter Try.func15, Try.ntmps15
    go_wp2_with ((first
      | go_big_skip
      | ((with_reducible refine at_box ?_); refine w_box (.tmp 0) (mRow a u1) rfl rfl rfl rfl ?_; intro g1 w1 hg1 hX f1)
      | ((with_reducible refine at_box ?_); refine w_box (.tmp 1) (mRow b u2) rfl rfl rfl rfl ?_; intro g2 w2 hg2 hx2 f2; replace f1 := f1.ext hx2; replace hX := hX.trans hx2; clear hx2)
      | ((with_reducible refine at_field ?_); (try refine w_yes _ _ _ rfl rfl rfl ?_); refine w_mfield _ _ _ rfl rfl rfl (by omega) ?_)
      | ((with_reducible refine at_load ?_); (try refine w_yes _ _ _ rfl rfl rfl ?_); refine w_loadN Try.stTxM _ (tRw a.tx) rfl rfl rfl f1 rfl (mtx_at a u1) ?_)
      | ((with_reducible refine at_load ?_); (try refine w_yes _ _ _ rfl rfl rfl ?_); refine w_loadN Try.stTxM _ (tRw b.tx) rfl rfl rfl f2 rfl (mtx_at b u2) ?_)
      | ((with_reducible refine at_bin ?_); (try refine w_yes _ _ _ rfl rfl rfl ?_); refine w_txeq _ _ a.tx b.tx rfl rfl rfl rfl ?_; rw [t2])
      | ((with_reducible refine at_load ?_); (try refine w_yes _ _ _ rfl rfl rfl ?_); refine w_fload _ rfl rfl rfl f1 rfl (agg_of (by kernel_rfl)) ?_)
      | ((with_reducible refine at_load ?_); (try refine w_yes _ _ _ rfl rfl rfl ?_); refine w_fload _ rfl rfl rfl f2 rfl (agg_of (by kernel_rfl)) ?_)
      | fail) <;> (try simp only [Act.put, List.setIfInBounds_toArray, List.set_cons_zero, List.set_cons_succ]))
    go_ret
    exact Keep.intro ⟨by rw [hdec.out]; rfl, hX⟩
  have t2 := decide_eq_true e7
  have hdec := hide_ (show decide (a = b) = a.bk.same b.bk from by
    cases hq : a.bk.same b.bk with
    | true => exact decide_eq_true (MsgD.eq_iff.2 ⟨e6, e7, BlkD.same_iff.1 hq⟩)
    | false => exact decide_eq_false fun h => by rw [BlkD.same_iff.2 (congrArg MsgD.bk h)] at hq; cases hq)
  clear e6 e7
  go_enter Try.func15, Try.ntmps15
  go_wp2_with ((first
    | go_big_skip
    | (go_at_call 41; refine (refBSame_any (b := a.bk) (b2 := b.bk) (u := u1) (u2 := u2) (h1.out.ext TxR.stays hX) (h2.out.ext TxR.stays hX)).mono ?_; rintro e w3 ⟨rfl, hx⟩; replace hX := hX.trans hx; clear hx)
    | ((with_reducible refine at_box ?_); refine w_box (.tmp 0) (mRow a u1) rfl rfl rfl rfl ?_; intro g1 w1 hg1 hX f1)
    | ((with_reducible refine at_box ?_); refine w_box (.tmp 1) (mRow b u2) rfl rfl rfl rfl ?_; intro g2 w2 hg2 hx2 f2; replace f1 := f1.ext hx2; replace hX := hX.trans hx2; clear hx2)
    | ((with_reducible refine at_field ?_); (try refine w_yes _ _ _ rfl rfl rfl ?_); refine w_mfield _ _ _ rfl rfl rfl (by omega) ?_)
    | ((with_reducible refine at_load ?_); (try refine w_yes _ _ _ rfl rfl rfl ?_); refine w_loadN Try.stTxM _ (tRw a.tx) rfl rfl rfl f1 rfl (mtx_at a u1) ?_)
    | ((with_reducible refine at_load ?_); (try refine w_yes _ _ _ rfl rfl rfl ?_); refine w_loadN Try.stTxM _ (tRw b.tx) rfl rfl rfl f2 rfl (mtx_at b u2) ?_)
    | ((with_reducible refine at_load ?_); (try refine w_yes _ _ _ rfl rfl rfl ?_); refine w_loadN Try.stBlkM _ (bRw a.bk u1) rfl rfl rfl f1 rfl (mbk_at a u1) ?_)
    | ((with_reducible refine at_load ?_); (try refine w_yes _ _ _ rfl rfl rfl ?_); refine w_loadN Try.stBlkM _ (bRw b.bk u2) rfl rfl rfl f2 rfl (mbk_at b u2) ?_)
    | ((with_reducible refine at_bin ?_); (try refine w_yes _ _ _ rfl rfl rfl ?_); refine w_txeq _ _ a.tx b.tx rfl rfl rfl rfl ?_; rw [t2])
    | ((with_reducible refine at_load ?_); (try refine w_yes _ _ _ rfl rfl rfl ?_); refine w_fload _ rfl rfl rfl f1 rfl (agg_of (by kernel_rfl)) ?_)
    | ((with_reducible refine at_load ?_); (try refine w_yes _ _ _ rfl rfl rfl ?_); refine w_fload _ rfl rfl rfl f2 rfl (agg_of (by kernel_rfl)) ?_)
    | fail) <;> (try simp only [Act.put, List.setIfInBounds_toArray, List.set_cons_zero, List.set_cons_succ]))
  go_ret
  exact Keep.intro ⟨by rw [hdec.out]; rfl, hX⟩

end Go.Proofs.Ytidhhmmjiflpjaa
