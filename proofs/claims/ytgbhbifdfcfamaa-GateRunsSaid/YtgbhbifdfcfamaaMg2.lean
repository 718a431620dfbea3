/- Right of package msg. -/
import Derived.Test.YtgbhbifdfcfamaaMg1
import Derived.Test.YtgbhbifdfcfamaaMsgM
namespace Go.Proofs.Ytgbhbifdfcfamaa
set_option maxRecDepth 100000
open Go.RowKit

theorem Try.agTx : AgT Try.prog 43 2 [.int .i64 0, .int .i64 0] := AgT.of (by kernel_rfl) (by kernel_rfl) rfl
set_option maxRecDepth 100000 in
set_option maxHeartbeats 6400000 in
theorem MRight_any {w : World} {u : Value} {d : MsgD} (hu : Recs 2 TxR w u d.bk.txs) (hvl : I64 d.vl) (hp : I64 d.bk.parent) : Calls Try.prog 44 #[.agg (mRow d u).toArray] w fun e w' => e = .returned (.bool (decide d.Right)) ∧ Ext w w' := by
  refine calls_keep ?_
  replace hu := hide_ hu
  replace hvl := hide_ hvl
  replace hp := hide_ hp
  by_cases h0 : In 0 6 d.fm
  rotate_left
  · have hfm := hide_ (decide_eq_false h0)
    have hdec := hide_ (show decide d.Right = false from decide_eq_false fun h => h0 h.fm)
    clear h0
    go_enter Try.func44, Try.ntmps44
    go_wp2_with ((first
      | ((with_reducible refine at_box ?_); refine w_box _ (mRow d u) rfl rfl rfl rfl ?_; intro g1 w1 hg1 hX f1)
      | (go_at_call 62; refine (within_any _ _ _ _).mono ?_; rintro e w2 ⟨rfl, hx⟩; (first | rw [hfm.out] | rw [hvw.out] | rw [hix.out]); replace f1 := f1.ext hx; replace hX := hX.trans hx; clear hx)
      | ((with_reducible refine at_field ?_); (try refine w_yes _ _ _ rfl rfl rfl ?_); refine w_mfield _ _ _ rfl rfl rfl (by omega) ?_)
      | ((with_reducible refine at_load ?_); (try refine w_yes _ _ _ rfl rfl rfl ?_); refine w_fload _ rfl rfl rfl f1 rfl (agg_of (by kernel_rfl)) ?_)
      | fail) <;> (try simp only [Act.put, List.setIfInBounds_toArray, List.set_cons_zero, List.set_cons_succ]))
    go_ret
    exact Keep.intro ⟨by rw [hdec.out]; rfl, hX⟩
  have hfm := hide_ (decide_eq_true h0)
  by_cases hk : d.kd = 0
  · have t0 : (d.kd == 0) = true := by simp [hk]
    by_cases qtx : d.tx.Right
    rotate_left
    · have htx := hide_ (show decide (d.tx.Right) = false from decide_eq_false qtx)
      have hdec := hide_ (show decide d.Right = false from decide_eq_false fun h => qtx (h.txOk hk))
      clear h0 hk qtx
      go_enter Try.func44, Try.ntmps44
      go_wp2_with ((first
        | ((with_reducible refine at_box ?_); refine w_box _ (mRow d u) rfl rfl rfl rfl ?_; intro g1 w1 hg1 hX f1)
        | (go_at_call 62; refine (within_any _ _ _ _).mono ?_; rintro e w2 ⟨rfl, hx⟩; (first | rw [hfm.out] | rw [hvw.out] | rw [hix.out]); replace f1 := f1.ext hx; replace hX := hX.trans hx; clear hx)
        | ((with_reducible refine at_field ?_); (try refine w_yes _ _ _ rfl rfl rfl ?_); refine w_mfield _ _ _ rfl rfl rfl (by omega) ?_)
        | (go_at_call 63; refine (Right_any d.tx _).mono ?_; rintro e w2 ⟨rfl, hx⟩; rw [htx.out]; replace f1 := f1.ext hx; replace hX := hX.trans hx; clear hx)
        | ((with_reducible refine at_load ?_); refine w_loadN Try.stTxM _ (tRw d.tx) rfl rfl rfl f1 rfl (mtx_at d u) ?_)
        | ((with_reducible refine at_load ?_); (try refine w_yes _ _ _ rfl rfl rfl ?_); refine w_fload _ rfl rfl rfl f1 rfl (agg_of (by kernel_rfl)) ?_)
        | fail) <;> (try simp only [Act.put, List.setIfInBounds_toArray, List.set_cons_zero, List.set_cons_succ]))
      go_ret
      exact Keep.intro ⟨by rw [hdec.out]; rfl, hX⟩
    have htx := hide_ (show decide (d.tx.Right) = true from decide_eq_true qtx)
    have hdec := hide_ (fin_0 hk h0 qtx)
    clear h0 hk qtx
    go_enter Try.func44, Try.ntmps44
    go_wp2_with ((first
      | ((with_reducible refine at_box ?_); refine w_box _ (mRow d u) rfl rfl rfl rfl ?_; intro g1 w1 hg1 hX f1)
      | (go_at_call 62; refine (within_any _ _ _ _).mono ?_; rintro e w2 ⟨rfl, hx⟩; (first | rw [hfm.out] | rw [hvw.out] | rw [hix.out]); replace f1 := f1.ext hx; replace hX := hX.trans hx; clear hx)
      | (go_at_call 63; refine (Right_any d.tx _).mono ?_; rintro e w2 ⟨rfl, hx⟩; rw [htx.out]; replace f1 := f1.ext hx; replace hX := hX.trans hx; clear hx)
      | (go_at_call 66; refine (MSame_any (a := ⟨d.kd, d.fm, d.ix, d.vw, d.vl, d.pr, TxD.zero, d.bk⟩) (b := d.bare) (u1 := u) (u2 := .slice none 0 0) (hu.out.ext TxR.stays hX) (OwnT.nil 0 _).recs).mono ?_; rintro e w2 ⟨rfl, hx⟩; replace f1 := f1.ext hx; replace hX := hX.trans hx; clear hx)
      | ((with_reducible refine at_field ?_); (try refine w_yes _ _ _ rfl rfl rfl ?_); refine w_mfield _ _ _ rfl rfl rfl (by omega) ?_)
      | ((with_reducible refine at_load ?_); refine w_loadN Try.stMsg _ (mRow ⟨d.kd, d.fm, d.ix, d.vw, d.vl, d.pr, TxD.zero, d.bk⟩ u) rfl rfl rfl f1 rfl mself_at ?_; replace f1 : Fs _ g1 (mRow ⟨d.kd, d.fm, d.ix, d.vw, d.vl, d.pr, TxD.zero, d.bk⟩ u) := f1)
      | ((with_reducible refine at_load ?_); refine w_loadN Try.stTxM _ (tRw d.tx) rfl rfl rfl f1 rfl (mtx_at d u) ?_)
      | ((with_reducible refine at_load ?_); (try refine w_yes _ _ _ rfl rfl rfl ?_); refine w_fload _ rfl rfl rfl f1 rfl (agg_of (by kernel_rfl)) ?_)
      | ((with_reducible refine at_sbuild ?_); refine w_sbuild Try.stTx [.int .i64 0, .int .i64 0] rfl rfl rfl (by intro p hp; simp at hp) ?_)
      | ((with_reducible refine at_store ?_); refine w_agstore Try.agTx (us := [.int .i64 0, .int .i64 0]) _ _ rfl rfl rfl rfl rfl f1 rfl (show 6 + 2 ≤ 13 from by decide) (TxD.one TxD.zero) ?_; intro w9 hm f9; replace f1 := f9; replace hX := hm.after hX (fun i e => e ▸ hg1); clear hm f9)
      | ((with_reducible refine at_sbuild ?_); refine w_mbuild (mRow d.bare (.slice none 0 0)) rfl rfl rfl (by intro p hp; simp at hp; rcases hp with rfl | rfl <;> exact ⟨by decide, rfl⟩) ?_)
      | fail) <;> (try simp only [Act.put, List.setIfInBounds_toArray, List.set_cons_zero, List.set_cons_succ]))
    go_ret
    exact Keep.intro ⟨by rw [hdec.out]; rfl, hX⟩
  have t0 : (d.kd == 0) = false := by simpa using hk
  have n0 := hk
  clear hk
  by_cases hk : d.kd = 1
  · have t0 : (d.kd == 0) = false := by simp [hk]
    have t1 : (d.kd == 1) = true := by simp [hk]
    by_cases qbk : d.bk.Right
    rotate_left
    · have hbk := hide_ (show decide (d.bk.Right) = false from decide_eq_false qbk)
      have hdec := hide_ (show decide d.Right = false from decide_eq_false fun h => qbk (h.bkOk hk))
      clear h0 hk qbk
      go_enter Try.func44, Try.ntmps44
      go_wp2_with ((first
        | ((with_reducible refine at_box ?_); refine w_box _ (mRow d u) rfl rfl rfl rfl ?_; intro g1 w1 hg1 hX f1)
        | (go_at_call 62; refine (within_any _ _ _ _).mono ?_; rintro e w2 ⟨rfl, hx⟩; (first | rw [hfm.out] | rw [hvw.out] | rw [hix.out]); replace f1 := f1.ext hx; replace hX := hX.trans hx; clear hx)
        | ((with_reducible refine at_field ?_); (try refine w_yes _ _ _ rfl rfl rfl ?_); refine w_mfield _ _ _ rfl rfl rfl (by omega) ?_)
        | (go_at_call 64; refine (BRight_any (b := d.bk) (u := u) (hu.out.ext TxR.stays hX) hp.out).mono ?_; rintro e w2 ⟨rfl, hx⟩; rw [hbk.out]; replace f1 := f1.ext hx; replace hX := hX.trans hx; clear hx)
        | ((with_reducible refine at_load ?_); refine w_loadN Try.stBlkM _ (bRw d.bk u) rfl rfl rfl f1 rfl (mbk_at d u) ?_)
        | ((with_reducible refine at_load ?_); (try refine w_yes _ _ _ rfl rfl rfl ?_); refine w_fload _ rfl rfl rfl f1 rfl (agg_of (by kernel_rfl)) ?_)
        | fail) <;> (try simp only [Act.put, List.setIfInBounds_toArray, List.set_cons_zero, List.set_cons_succ]))
      go_ret
      exact Keep.intro ⟨by rw [hdec.out]; rfl, hX⟩
    have hbk := hide_ (show decide (d.bk.Right) = true from decide_eq_true qbk)
    have hdec := hide_ (fin_1 hk h0 qbk)
    clear h0 hk qbk
    go_enter Try.func44, Try.ntmps44
    go_wp2_with ((first
      | ((with_reducible refine at_box ?_); refine w_box _ (mRow d u) rfl rfl rfl rfl ?_; intro g1 w1 hg1 hX f1)
      | (go_at_call 62; refine (within_any _ _ _ _).mono ?_; rintro e w2 ⟨rfl, hx⟩; (first | rw [hfm.out] | rw [hvw.out] | rw [hix.out]); replace f1 := f1.ext hx; replace hX := hX.trans hx; clear hx)
      | (go_at_call 64; refine (BRight_any (b := d.bk) (u := u) (hu.out.ext TxR.stays hX) hp.out).mono ?_; rintro e w2 ⟨rfl, hx⟩; rw [hbk.out]; replace f1 := f1.ext hx; replace hX := hX.trans hx; clear hx)
      | (go_at_call 66; refine (MSame_any (a := ⟨d.kd, d.fm, d.ix, d.vw, d.vl, d.pr, d.tx, BlkD.zero⟩) (b := d.bare) (u1 := (.slice none 0 0)) (u2 := .slice none 0 0) (OwnT.nil 0 _).recs (OwnT.nil 0 _).recs).mono ?_; rintro e w2 ⟨rfl, hx⟩; replace f1 := f1.ext hx; replace hX := hX.trans hx; clear hx)
      | ((with_reducible refine at_field ?_); (try refine w_yes _ _ _ rfl rfl rfl ?_); refine w_mfield _ _ _ rfl rfl rfl (by omega) ?_)
      | ((with_reducible refine at_load ?_); refine w_loadN Try.stMsg _ (mRow ⟨d.kd, d.fm, d.ix, d.vw, d.vl, d.pr, d.tx, BlkD.zero⟩ (.slice none 0 0)) rfl rfl rfl f1 rfl mself_at ?_; replace f1 : Fs _ g1 (mRow ⟨d.kd, d.fm, d.ix, d.vw, d.vl, d.pr, d.tx, BlkD.zero⟩ (.slice none 0 0)) := f1)
      | ((with_reducible refine at_load ?_); refine w_loadN Try.stBlkM _ (bRw d.bk u) rfl rfl rfl f1 rfl (mbk_at d u) ?_)
      | ((with_reducible refine at_load ?_); (try refine w_yes _ _ _ rfl rfl rfl ?_); refine w_fload _ rfl rfl rfl f1 rfl (agg_of (by kernel_rfl)) ?_)
      | ((with_reducible refine at_sbuild ?_); refine w_sbuild Try.stBlk [.int .i64 0, .int .i64 0, .int .i64 0, .int .i64 0, .slice none 0 0] rfl rfl rfl (by intro p hp; simp at hp) ?_)
      | ((with_reducible refine at_store ?_); refine w_agstore Try.agBlk (us := [.int .i64 0, .int .i64 0, .int .i64 0, .int .i64 0, .slice none 0 0]) _ _ rfl rfl rfl rfl rfl f1 rfl (show 8 + 5 ≤ 13 from by decide) (blk_one rfl) ?_; intro w9 hm f9; replace f1 := f9; replace hX := hm.after hX (fun i e => e ▸ hg1); clear hm f9)
      | ((with_reducible refine at_sbuild ?_); refine w_mbuild (mRow d.bare (.slice none 0 0)) rfl rfl rfl (by intro p hp; simp at hp; rcases hp with rfl | rfl <;> exact ⟨by decide, rfl⟩) ?_)
      | fail) <;> (try simp only [Act.put, List.setIfInBounds_toArray, List.set_cons_zero, List.set_cons_succ]))
    go_ret
    exact Keep.intro ⟨by rw [hdec.out]; rfl, hX⟩
  have t1 : (d.kd == 1) = false := by simpa using hk
  have n1 := hk
  clear hk
  by_cases hk : d.kd = 3
  · have t0 : (d.kd == 0) = false := by simp [hk]
    have t1 : (d.kd == 1) = false := by simp [hk]
    have t3 : (d.kd == 3) = true := by simp [hk]
    by_cases qp1 : -1 ≤ d.pr
    rotate_left
    · have tp1 : decide (d.pr < -1) = true := by simp; omega
      have hdec := hide_ (show decide d.Right = false from decide_eq_false fun h => qp1 (h.prOk hk).1)
      clear h0 hk qp1
      go_enter Try.func44, Try.ntmps44
      go_wp2_with ((first
        | ((with_reducible refine at_box ?_); refine w_box _ (mRow d u) rfl rfl rfl rfl ?_; intro g1 w1 hg1 hX f1)
        | (go_at_call 62; refine (within_any _ _ _ _).mono ?_; rintro e w2 ⟨rfl, hx⟩; (first | rw [hfm.out] | rw [hvw.out] | rw [hix.out]); replace f1 := f1.ext hx; replace hX := hX.trans hx; clear hx)
        | ((with_reducible refine at_field ?_); (try refine w_yes _ _ _ rfl rfl rfl ?_); refine w_mfield _ _ _ rfl rfl rfl (by omega) ?_)
        | ((with_reducible refine at_load ?_); (try refine w_yes _ _ _ rfl rfl rfl ?_); refine w_fload _ rfl rfl rfl f1 rfl (agg_of (by kernel_rfl)) ?_)
        | fail) <;> (try simp only [Act.put, List.setIfInBounds_toArray, List.set_cons_zero, List.set_cons_succ]))
      go_ret
      exact Keep.intro ⟨by rw [hdec.out]; rfl, hX⟩
    have tp1 : decide (d.pr < -1) = false := by simp; omega
    by_cases qp2 : d.pr < d.vw
    rotate_left
    · have tp2 : decide (d.vw ≤ d.pr) = true := by simp; omega
      have hdec := hide_ (show decide d.Right = false from decide_eq_false fun h => qp2 (h.prOk hk).2)
      clear h0 hk qp1 qp2
      go_enter Try.func44, Try.ntmps44
      go_wp2_with ((first
        | ((with_reducible refine at_box ?_); refine w_box _ (mRow d u) rfl rfl rfl rfl ?_; intro g1 w1 hg1 hX f1)
        | (go_at_call 62; refine (within_any _ _ _ _).mono ?_; rintro e w2 ⟨rfl, hx⟩; (first | rw [hfm.out] | rw [hvw.out] | rw [hix.out]); replace f1 := f1.ext hx; replace hX := hX.trans hx; clear hx)
        | ((with_reducible refine at_field ?_); (try refine w_yes _ _ _ rfl rfl rfl ?_); refine w_mfield _ _ _ rfl rfl rfl (by omega) ?_)
        | ((with_reducible refine at_load ?_); (try refine w_yes _ _ _ rfl rfl rfl ?_); refine w_fload _ rfl rfl rfl f1 rfl (agg_of (by kernel_rfl)) ?_)
        | fail) <;> (try simp only [Act.put, List.setIfInBounds_toArray, List.set_cons_zero, List.set_cons_succ]))
      go_ret
      exact Keep.intro ⟨by rw [hdec.out]; rfl, hX⟩
    have tp2 : decide (d.vw ≤ d.pr) = false := by simp; omega
    by_cases qvw : In 0 1000 d.vw
    rotate_left
    · have hvw := hide_ (show decide (In 0 1000 d.vw) = false from decide_eq_false qvw)
      have hdec := hide_ (show decide d.Right = false from decide_eq_false fun h => qvw (h.vwOk (by omega)))
      clear h0 hk qp1 qp2 qvw
      go_enter Try.func44, Try.ntmps44
      go_wp2_with ((first
        | ((with_reducible refine at_box ?_); refine w_box _ (mRow d u) rfl rfl rfl rfl ?_; intro g1 w1 hg1 hX f1)
        | (go_at_call 62; refine (within_any _ _ _ _).mono ?_; rintro e w2 ⟨rfl, hx⟩; (first | rw [hfm.out] | rw [hvw.out] | rw [hix.out]); replace f1 := f1.ext hx; replace hX := hX.trans hx; clear hx)
        | ((with_reducible refine at_field ?_); (try refine w_yes _ _ _ rfl rfl rfl ?_); refine w_mfield _ _ _ rfl rfl rfl (by omega) ?_)
        | ((with_reducible refine at_load ?_); (try refine w_yes _ _ _ rfl rfl rfl ?_); refine w_fload _ rfl rfl rfl f1 rfl (agg_of (by kernel_rfl)) ?_)
        | ((with_reducible refine at_store ?_); refine w_fstore (u := .int .i64 0) _ _ rfl rfl rfl rfl rfl f1 (show _ < 13 by first | decide | (simp [mOff, mRow])) rfl rfl (by kernel_rfl) ?_; intro w9 hm f9; replace f1 := f9; replace hX := hm.after hX (fun i e => e ▸ hg1); clear hm f9)
        | fail) <;> (try simp only [Act.put, List.setIfInBounds_toArray, List.set_cons_zero, List.set_cons_succ]))
      go_ret
      exact Keep.intro ⟨by rw [hdec.out]; rfl, hX⟩
    have hvw := hide_ (show decide (In 0 1000 d.vw) = true from decide_eq_true qvw)
    by_cases qix : In 0 1000 d.ix
    rotate_left
    · have hix := hide_ (show decide (In 0 1000 d.ix) = false from decide_eq_false qix)
      have hdec := hide_ (show decide d.Right = false from decide_eq_false fun h => qix (h.ixOk (by omega)))
      clear h0 hk qp1 qp2 qvw qix
      go_enter Try.func44, Try.ntmps44
      go_wp2_with ((first
        | ((with_reducible refine at_box ?_); refine w_box _ (mRow d u) rfl rfl rfl rfl ?_; intro g1 w1 hg1 hX f1)
        | (go_at_call 62; refine (within_any _ _ _ _).mono ?_; rintro e w2 ⟨rfl, hx⟩; (first | rw [hfm.out] | rw [hvw.out] | rw [hix.out]); replace f1 := f1.ext hx; replace hX := hX.trans hx; clear hx)
        | ((with_reducible refine at_field ?_); (try refine w_yes _ _ _ rfl rfl rfl ?_); refine w_mfield _ _ _ rfl rfl rfl (by omega) ?_)
        | ((with_reducible refine at_load ?_); (try refine w_yes _ _ _ rfl rfl rfl ?_); refine w_fload _ rfl rfl rfl f1 rfl (agg_of (by kernel_rfl)) ?_)
        | ((with_reducible refine at_store ?_); refine w_fstore (u := .int .i64 0) _ _ rfl rfl rfl rfl rfl f1 (show _ < 13 by first | decide | (simp [mOff, mRow])) rfl rfl (by kernel_rfl) ?_; intro w9 hm f9; replace f1 := f9; replace hX := hm.after hX (fun i e => e ▸ hg1); clear hm f9)
        | fail) <;> (try simp only [Act.put, List.setIfInBounds_toArray, List.set_cons_zero, List.set_cons_succ]))
      go_ret
      exact Keep.intro ⟨by rw [hdec.out]; rfl, hX⟩
    have hix := hide_ (show decide (In 0 1000 d.ix) = true from decide_eq_true qix)
    by_cases qval : VOk d.kd d.vl
    rotate_left
    · have hval := hide_ (show decide (VOk d.kd d.vl) = false from decide_eq_false qval)
      have hdec := hide_ (show decide d.Right = false from decide_eq_false fun h => qval (h.vlOk (by omega)))
      clear h0 hk qp1 qp2 qvw qix qval
      go_enter Try.func44, Try.ntmps44
      go_wp2_with ((first
        | ((with_reducible refine at_box ?_); refine w_box _ (mRow d u) rfl rfl rfl rfl ?_; intro g1 w1 hg1 hX f1)
        | (go_at_call 62; refine (within_any _ _ _ _).mono ?_; rintro e w2 ⟨rfl, hx⟩; (first | rw [hfm.out] | rw [hvw.out] | rw [hix.out]); replace f1 := f1.ext hx; replace hX := hX.trans hx; clear hx)
        | ((with_reducible refine at_field ?_); (try refine w_yes _ _ _ rfl rfl rfl ?_); refine w_mfield _ _ _ rfl rfl rfl (by omega) ?_)
        | (go_at_call 65; refine (value_any _ _ hvl.out _).mono ?_; rintro e w2 ⟨rfl, hx⟩; rw [hval.out]; replace f1 := f1.ext hx; replace hX := hX.trans hx; clear hx)
        | ((with_reducible refine at_load ?_); (try refine w_yes _ _ _ rfl rfl rfl ?_); refine w_fload _ rfl rfl rfl f1 rfl (agg_of (by kernel_rfl)) ?_)
        | ((with_reducible refine at_store ?_); refine w_fstore (u := .int .i64 0) _ _ rfl rfl rfl rfl rfl f1 (show _ < 13 by first | decide | (simp [mOff, mRow])) rfl rfl (by kernel_rfl) ?_; intro w9 hm f9; replace f1 := f9; replace hX := hm.after hX (fun i e => e ▸ hg1); clear hm f9)
        | fail) <;> (try simp only [Act.put, List.setIfInBounds_toArray, List.set_cons_zero, List.set_cons_succ]))
      go_ret
      exact Keep.intro ⟨by rw [hdec.out]; rfl, hX⟩
    have hval := hide_ (show decide (VOk d.kd d.vl) = true from decide_eq_true qval)
    have hdec := hide_ (fin_3 hk h0 ⟨qp1, qp2⟩ qvw qix qval)
    clear h0 hk qp1 qp2 qvw qix qval
    go_enter Try.func44, Try.ntmps44
    go_wp2_with ((first
      | ((with_reducible refine at_box ?_); refine w_box _ (mRow d u) rfl rfl rfl rfl ?_; intro g1 w1 hg1 hX f1)
      | (go_at_call 62; refine (within_any _ _ _ _).mono ?_; rintro e w2 ⟨rfl, hx⟩; (first | rw [hfm.out] | rw [hvw.out] | rw [hix.out]); replace f1 := f1.ext hx; replace hX := hX.trans hx; clear hx)
      | (go_at_call 65; refine (value_any _ _ hvl.out _).mono ?_; rintro e w2 ⟨rfl, hx⟩; rw [hval.out]; replace f1 := f1.ext hx; replace hX := hX.trans hx; clear hx)
      | (go_at_call 66; refine (MSame_any (a := ⟨d.kd, d.fm, 0, 0, 0, 0, d.tx, d.bk⟩) (b := d.bare) (u1 := u) (u2 := .slice none 0 0) (hu.out.ext TxR.stays hX) (OwnT.nil 0 _).recs).mono ?_; rintro e w2 ⟨rfl, hx⟩; replace f1 := f1.ext hx; replace hX := hX.trans hx; clear hx)
      | ((with_reducible refine at_field ?_); (try refine w_yes _ _ _ rfl rfl rfl ?_); refine w_mfield _ _ _ rfl rfl rfl (by omega) ?_)
      | ((with_reducible refine at_load ?_); refine w_loadN Try.stMsg _ (mRow ⟨d.kd, d.fm, 0, 0, 0, 0, d.tx, d.bk⟩ u) rfl rfl rfl f1 rfl mself_at ?_; replace f1 : Fs _ g1 (mRow ⟨d.kd, d.fm, 0, 0, 0, 0, d.tx, d.bk⟩ u) := f1)
      | ((with_reducible refine at_load ?_); (try refine w_yes _ _ _ rfl rfl rfl ?_); refine w_fload _ rfl rfl rfl f1 rfl (agg_of (by kernel_rfl)) ?_)
      | ((with_reducible refine at_sbuild ?_); refine w_mbuild (mRow d.bare (.slice none 0 0)) rfl rfl rfl (by intro p hp; simp at hp; rcases hp with rfl | rfl <;> exact ⟨by decide, rfl⟩) ?_)
      | ((with_reducible refine at_store ?_); refine w_fstore (u := .int .i64 0) _ _ rfl rfl rfl rfl rfl f1 (show _ < 13 by first | decide | (simp [mOff, mRow])) rfl rfl (by kernel_rfl) ?_; intro w9 hm f9; replace f1 := f9; replace hX := hm.after hX (fun i e => e ▸ hg1); clear hm f9)
      | fail) <;> (try simp only [Act.put, List.setIfInBounds_toArray, List.set_cons_zero, List.set_cons_succ]))
    go_ret
    exact Keep.intro ⟨by rw [hdec.out]; rfl, hX⟩
  have t3 : (d.kd == 3) = false := by simpa using hk
  have n3 := hk
  clear hk
  by_cases hk : d.kd = 4
  · have t0 : (d.kd == 0) = false := by simp [hk]
    have t1 : (d.kd == 1) = false := by simp [hk]
    have t3 : (d.kd == 3) = false := by simp [hk]
    have t4 : (d.kd == 4) = true := by simp [hk]
    by_cases qvw : In 0 1000 d.vw
    rotate_left
    · have hvw := hide_ (show decide (In 0 1000 d.vw) = false from decide_eq_false qvw)
      have hdec := hide_ (show decide d.Right = false from decide_eq_false fun h => qvw (h.vwOk (by omega)))
      clear h0 hk qvw
      go_enter Try.func44, Try.ntmps44
      go_wp2_with ((first
        | ((with_reducible refine at_box ?_); refine w_box _ (mRow d u) rfl rfl rfl rfl ?_; intro g1 w1 hg1 hX f1)
        | (go_at_call 62; refine (within_any _ _ _ _).mono ?_; rintro e w2 ⟨rfl, hx⟩; (first | rw [hfm.out] | rw [hvw.out] | rw [hix.out]); replace f1 := f1.ext hx; replace hX := hX.trans hx; clear hx)
        | ((with_reducible refine at_field ?_); (try refine w_yes _ _ _ rfl rfl rfl ?_); refine w_mfield _ _ _ rfl rfl rfl (by omega) ?_)
        | ((with_reducible refine at_load ?_); (try refine w_yes _ _ _ rfl rfl rfl ?_); refine w_fload _ rfl rfl rfl f1 rfl (agg_of (by kernel_rfl)) ?_)
        | fail) <;> (try simp only [Act.put, List.setIfInBounds_toArray, List.set_cons_zero, List.set_cons_succ]))
      go_ret
      exact Keep.intro ⟨by rw [hdec.out]; rfl, hX⟩
    have hvw := hide_ (show decide (In 0 1000 d.vw) = true from decide_eq_true qvw)
    by_cases qix : In 0 1000 d.ix
    rotate_left
    · have hix := hide_ (show decide (In 0 1000 d.ix) = false from decide_eq_false qix)
      have hdec := hide_ (show decide d.Right = false from decide_eq_false fun h => qix (h.ixOk (by omega)))
      clear h0 hk qvw qix
      go_enter Try.func44, Try.ntmps44
      go_wp2_with ((first
        | ((with_reducible refine at_box ?_); refine w_box _ (mRow d u) rfl rfl rfl rfl ?_; intro g1 w1 hg1 hX f1)
        | (go_at_call 62; refine (within_any _ _ _ _).mono ?_; rintro e w2 ⟨rfl, hx⟩; (first | rw [hfm.out] | rw [hvw.out] | rw [hix.out]); replace f1 := f1.ext hx; replace hX := hX.trans hx; clear hx)
        | ((with_reducible refine at_field ?_); (try refine w_yes _ _ _ rfl rfl rfl ?_); refine w_mfield _ _ _ rfl rfl rfl (by omega) ?_)
        | ((with_reducible refine at_load ?_); (try refine w_yes _ _ _ rfl rfl rfl ?_); refine w_fload _ rfl rfl rfl f1 rfl (agg_of (by kernel_rfl)) ?_)
        | ((with_reducible refine at_store ?_); refine w_fstore (u := .int .i64 0) _ _ rfl rfl rfl rfl rfl f1 (show _ < 13 by first | decide | (simp [mOff, mRow])) rfl rfl (by kernel_rfl) ?_; intro w9 hm f9; replace f1 := f9; replace hX := hm.after hX (fun i e => e ▸ hg1); clear hm f9)
        | fail) <;> (try simp only [Act.put, List.setIfInBounds_toArray, List.set_cons_zero, List.set_cons_succ]))
      go_ret
      exact Keep.intro ⟨by rw [hdec.out]; rfl, hX⟩
    have hix := hide_ (show decide (In 0 1000 d.ix) = true from decide_eq_true qix)
    by_cases qval : VOk d.kd d.vl
    rotate_left
    · have hval := hide_ (show decide (VOk d.kd d.vl) = false from decide_eq_false qval)
      have hdec := hide_ (show decide d.Right = false from decide_eq_false fun h => qval (h.vlOk (by omega)))
      clear h0 hk qvw qix qval
      go_enter Try.func44, Try.ntmps44
      go_wp2_with ((first
        | ((with_reducible refine at_box ?_); refine w_box _ (mRow d u) rfl rfl rfl rfl ?_; intro g1 w1 hg1 hX f1)
        | (go_at_call 62; refine (within_any _ _ _ _).mono ?_; rintro e w2 ⟨rfl, hx⟩; (first | rw [hfm.out] | rw [hvw.out] | rw [hix.out]); replace f1 := f1.ext hx; replace hX := hX.trans hx; clear hx)
        | ((with_reducible refine at_field ?_); (try refine w_yes _ _ _ rfl rfl rfl ?_); refine w_mfield _ _ _ rfl rfl rfl (by omega) ?_)
        | (go_at_call 65; refine (value_any _ _ hvl.out _).mono ?_; rintro e w2 ⟨rfl, hx⟩; rw [hval.out]; replace f1 := f1.ext hx; replace hX := hX.trans hx; clear hx)
        | ((with_reducible refine at_load ?_); (try refine w_yes _ _ _ rfl rfl rfl ?_); refine w_fload _ rfl rfl rfl f1 rfl (agg_of (by kernel_rfl)) ?_)
        | ((with_reducible refine at_store ?_); refine w_fstore (u := .int .i64 0) _ _ rfl rfl rfl rfl rfl f1 (show _ < 13 by first | decide | (simp [mOff, mRow])) rfl rfl (by kernel_rfl) ?_; intro w9 hm f9; replace f1 := f9; replace hX := hm.after hX (fun i e => e ▸ hg1); clear hm f9)
        | fail) <;> (try simp only [Act.put, List.setIfInBounds_toArray, List.set_cons_zero, List.set_cons_succ]))
      go_ret
      exact Keep.intro ⟨by rw [hdec.out]; rfl, hX⟩
    have hval := hide_ (show decide (VOk d.kd d.vl) = true from decide_eq_true qval)
    have hdec := hide_ (fin_45 (.inl hk) h0 qvw qix qval)
    clear h0 hk qvw qix qval
    go_enter Try.func44, Try.ntmps44
    go_wp2_with ((first
      | ((with_reducible refine at_box ?_); refine w_box _ (mRow d u) rfl rfl rfl rfl ?_; intro g1 w1 hg1 hX f1)
      | (go_at_call 62; refine (within_any _ _ _ _).mono ?_; rintro e w2 ⟨rfl, hx⟩; (first | rw [hfm.out] | rw [hvw.out] | rw [hix.out]); replace f1 := f1.ext hx; replace hX := hX.trans hx; clear hx)
      | (go_at_call 65; refine (value_any _ _ hvl.out _).mono ?_; rintro e w2 ⟨rfl, hx⟩; rw [hval.out]; replace f1 := f1.ext hx; replace hX := hX.trans hx; clear hx)
      | (go_at_call 66; refine (MSame_any (a := ⟨d.kd, d.fm, 0, 0, 0, d.pr, d.tx, d.bk⟩) (b := d.bare) (u1 := u) (u2 := .slice none 0 0) (hu.out.ext TxR.stays hX) (OwnT.nil 0 _).recs).mono ?_; rintro e w2 ⟨rfl, hx⟩; replace f1 := f1.ext hx; replace hX := hX.trans hx; clear hx)
      | ((with_reducible refine at_field ?_); (try refine w_yes _ _ _ rfl rfl rfl ?_); refine w_mfield _ _ _ rfl rfl rfl (by omega) ?_)
      | ((with_reducible refine at_load ?_); refine w_loadN Try.stMsg _ (mRow ⟨d.kd, d.fm, 0, 0, 0, d.pr, d.tx, d.bk⟩ u) rfl rfl rfl f1 rfl mself_at ?_; replace f1 : Fs _ g1 (mRow ⟨d.kd, d.fm, 0, 0, 0, d.pr, d.tx, d.bk⟩ u) := f1)
      | ((with_reducible refine at_load ?_); (try refine w_yes _ _ _ rfl rfl rfl ?_); refine w_fload _ rfl rfl rfl f1 rfl (agg_of (by kernel_rfl)) ?_)
      | ((with_reducible refine at_sbuild ?_); refine w_mbuild (mRow d.bare (.slice none 0 0)) rfl rfl rfl (by intro p hp; simp at hp; rcases hp with rfl | rfl <;> exact ⟨by decide, rfl⟩) ?_)
      | ((with_reducible refine at_store ?_); refine w_fstore (u := .int .i64 0) _ _ rfl rfl rfl rfl rfl f1 (show _ < 13 by first | decide | (simp [mOff, mRow])) rfl rfl (by kernel_rfl) ?_; intro w9 hm f9; replace f1 := f9; replace hX := hm.after hX (fun i e => e ▸ hg1); clear hm f9)
      | fail) <;> (try simp only [Act.put, List.setIfInBounds_toArray, List.set_cons_zero, List.set_cons_succ]))
    go_ret
    exact Keep.intro ⟨by rw [hdec.out]; rfl, hX⟩
  have t4 : (d.kd == 4) = false := by simpa using hk
  have n4 := hk
  clear hk
  by_cases hk : d.kd = 5
  · have t0 : (d.kd == 0) = false := by simp [hk]
    have t1 : (d.kd == 1) = false := by simp [hk]
    have t3 : (d.kd == 3) = false := by simp [hk]
    have t4 : (d.kd == 4) = false := by simp [hk]
    have t5 : (d.kd == 5) = true := by simp [hk]
    by_cases qvw : In 0 1000 d.vw
    rotate_left
    · have hvw := hide_ (show decide (In 0 1000 d.vw) = false from decide_eq_false qvw)
      have hdec := hide_ (show decide d.Right = false from decide_eq_false fun h => qvw (h.vwOk (by omega)))
      clear h0 hk qvw
      go_enter Try.func44, Try.ntmps44
      go_wp2_with ((first
        | ((with_reducible refine at_box ?_); refine w_box _ (mRow d u) rfl rfl rfl rfl ?_; intro g1 w1 hg1 hX f1)
        | (go_at_call 62; refine (within_any _ _ _ _).mono ?_; rintro e w2 ⟨rfl, hx⟩; (first | rw [hfm.out] | rw [hvw.out] | rw [hix.out]); replace f1 := f1.ext hx; replace hX := hX.trans hx; clear hx)
        | ((with_reducible refine at_field ?_); (try refine w_yes _ _ _ rfl rfl rfl ?_); refine w_mfield _ _ _ rfl rfl rfl (by omega) ?_)
        | ((with_reducible refine at_load ?_); (try refine w_yes _ _ _ rfl rfl rfl ?_); refine w_fload _ rfl rfl rfl f1 rfl (agg_of (by kernel_rfl)) ?_)
        | fail) <;> (try simp only [Act.put, List.setIfInBounds_toArray, List.set_cons_zero, List.set_cons_succ]))
      go_ret
      exact Keep.intro ⟨by rw [hdec.out]; rfl, hX⟩
    have hvw := hide_ (show decide (In 0 1000 d.vw) = true from decide_eq_true qvw)
    by_cases qix : In 0 1000 d.ix
    rotate_left
    · have hix := hide_ (show decide (In 0 1000 d.ix) = false from decide_eq_false qix)
      have hdec := hide_ (show decide d.Right = false from decide_eq_false fun h => qix (h.ixOk (by omega)))
      clear h0 hk qvw qix
      go_enter Try.func44, Try.ntmps44
      go_wp2_with ((first
        | ((with_reducible refine at_box ?_); refine w_box _ (mRow d u) rfl rfl rfl rfl ?_; intro g1 w1 hg1 hX f1)
        | (go_at_call 62; refine (within_any _ _ _ _).mono ?_; rintro e w2 ⟨rfl, hx⟩; (first | rw [hfm.out] | rw [hvw.out] | rw [hix.out]); replace f1 := f1.ext hx; replace hX := hX.trans hx; clear hx)
        | ((with_reducible refine at_field ?_); (try refine w_yes _ _ _ rfl rfl rfl ?_); refine w_mfield _ _ _ rfl rfl rfl (by omega) ?_)
        | ((with_reducible refine at_load ?_); (try refine w_yes _ _ _ rfl rfl rfl ?_); refine w_fload _ rfl rfl rfl f1 rfl (agg_of (by kernel_rfl)) ?_)
        | ((with_reducible refine at_store ?_); refine w_fstore (u := .int .i64 0) _ _ rfl rfl rfl rfl rfl f1 (show _ < 13 by first | decide | (simp [mOff, mRow])) rfl rfl (by kernel_rfl) ?_; intro w9 hm f9; replace f1 := f9; replace hX := hm.after hX (fun i e => e ▸ hg1); clear hm f9)
        | fail) <;> (try simp only [Act.put, List.setIfInBounds_toArray, List.set_cons_zero, List.set_cons_succ]))
      go_ret
      exact Keep.intro ⟨by rw [hdec.out]; rfl, hX⟩
    have hix := hide_ (show decide (In 0 1000 d.ix) = true from decide_eq_true qix)
    by_cases qval : VOk d.kd d.vl
    rotate_left
    · have hval := hide_ (show decide (VOk d.kd d.vl) = false from decide_eq_false qval)
      have hdec := hide_ (show decide d.Right = false from decide_eq_false fun h => qval (h.vlOk (by omega)))
      clear h0 hk qvw qix qval
      go_enter Try.func44, Try.ntmps44
      go_wp2_with ((first
        | ((with_reducible refine at_box ?_); refine w_box _ (mRow d u) rfl rfl rfl rfl ?_; intro g1 w1 hg1 hX f1)
        | (go_at_call 62; refine (within_any _ _ _ _).mono ?_; rintro e w2 ⟨rfl, hx⟩; (first | rw [hfm.out] | rw [hvw.out] | rw [hix.out]); replace f1 := f1.ext hx; replace hX := hX.trans hx; clear hx)
        | ((with_reducible refine at_field ?_); (try refine w_yes _ _ _ rfl rfl rfl ?_); refine w_mfield _ _ _ rfl rfl rfl (by omega) ?_)
        | (go_at_call 65; refine (value_any _ _ hvl.out _).mono ?_; rintro e w2 ⟨rfl, hx⟩; rw [hval.out]; replace f1 := f1.ext hx; replace hX := hX.trans hx; clear hx)
        | ((with_reducible refine at_load ?_); (try refine w_yes _ _ _ rfl rfl rfl ?_); refine w_fload _ rfl rfl rfl f1 rfl (agg_of (by kernel_rfl)) ?_)
        | ((with_reducible refine at_store ?_); refine w_fstore (u := .int .i64 0) _ _ rfl rfl rfl rfl rfl f1 (show _ < 13 by first | decide | (simp [mOff, mRow])) rfl rfl (by kernel_rfl) ?_; intro w9 hm f9; replace f1 := f9; replace hX := hm.after hX (fun i e => e ▸ hg1); clear hm f9)
        | fail) <;> (try simp only [Act.put, List.setIfInBounds_toArray, List.set_cons_zero, List.set_cons_succ]))
      go_ret
      exact Keep.intro ⟨by rw [hdec.out]; rfl, hX⟩
    have hval := hide_ (show decide (VOk d.kd d.vl) = true from decide_eq_true qval)
    have hdec := hide_ (fin_45 (.inr hk) h0 qvw qix qval)
    clear h0 hk qvw qix qval
    go_enter Try.func44, Try.ntmps44
    go_wp2_with ((first
      | ((with_reducible refine at_box ?_); refine w_box _ (mRow d u) rfl rfl rfl rfl ?_; intro g1 w1 hg1 hX f1)
      | (go_at_call 62; refine (within_any _ _ _ _).mono ?_; rintro e w2 ⟨rfl, hx⟩; (first | rw [hfm.out] | rw [hvw.out] | rw [hix.out]); replace f1 := f1.ext hx; replace hX := hX.trans hx; clear hx)
      | (go_at_call 65; refine (value_any _ _ hvl.out _).mono ?_; rintro e w2 ⟨rfl, hx⟩; rw [hval.out]; replace f1 := f1.ext hx; replace hX := hX.trans hx; clear hx)
      | (go_at_call 66; refine (MSame_any (a := ⟨d.kd, d.fm, 0, 0, 0, d.pr, d.tx, d.bk⟩) (b := d.bare) (u1 := u) (u2 := .slice none 0 0) (hu.out.ext TxR.stays hX) (OwnT.nil 0 _).recs).mono ?_; rintro e w2 ⟨rfl, hx⟩; replace f1 := f1.ext hx; replace hX := hX.trans hx; clear hx)
      | ((with_reducible refine at_field ?_); (try refine w_yes _ _ _ rfl rfl rfl ?_); refine w_mfield _ _ _ rfl rfl rfl (by omega) ?_)
      | ((with_reducible refine at_load ?_); refine w_loadN Try.stMsg _ (mRow ⟨d.kd, d.fm, 0, 0, 0, d.pr, d.tx, d.bk⟩ u) rfl rfl rfl f1 rfl mself_at ?_; replace f1 : Fs _ g1 (mRow ⟨d.kd, d.fm, 0, 0, 0, d.pr, d.tx, d.bk⟩ u) := f1)
      | ((with_reducible refine at_load ?_); (try refine w_yes _ _ _ rfl rfl rfl ?_); refine w_fload _ rfl rfl rfl f1 rfl (agg_of (by kernel_rfl)) ?_)
      | ((with_reducible refine at_sbuild ?_); refine w_mbuild (mRow d.bare (.slice none 0 0)) rfl rfl rfl (by intro p hp; simp at hp; rcases hp with rfl | rfl <;> exact ⟨by decide, rfl⟩) ?_)
      | ((with_reducible refine at_store ?_); refine w_fstore (u := .int .i64 0) _ _ rfl rfl rfl rfl rfl f1 (show _ < 13 by first | decide | (simp [mOff, mRow])) rfl rfl (by kernel_rfl) ?_; intro w9 hm f9; replace f1 := f9; replace hX := hm.after hX (fun i e => e ▸ hg1); clear hm f9)
      | fail) <;> (try simp only [Act.put, List.setIfInBounds_toArray, List.set_cons_zero, List.set_cons_succ]))
    go_ret
    exact Keep.intro ⟨by rw [hdec.out]; rfl, hX⟩
  have t5 : (d.kd == 5) = false := by simpa using hk
  have n5 := hk
  clear hk
  by_cases hk : d.kd = 6
  · have t0 : (d.kd == 0) = false := by simp [hk]
    have t1 : (d.kd == 1) = false := by simp [hk]
    have t3 : (d.kd == 3) = false := by simp [hk]
    have t4 : (d.kd == 4) = false := by simp [hk]
    have t5 : (d.kd == 5) = false := by simp [hk]
    have t6 : (d.kd == 6) = true := by simp [hk]
    by_cases qix : In 0 1000 d.ix
    rotate_left
    · have hix := hide_ (show decide (In 0 1000 d.ix) = false from decide_eq_false qix)
      have hdec := hide_ (show decide d.Right = false from decide_eq_false fun h => qix (h.ixOk (by omega)))
      clear h0 hk qix
      go_enter Try.func44, Try.ntmps44
      go_wp2_with ((first
        | ((with_reducible refine at_box ?_); refine w_box _ (mRow d u) rfl rfl rfl rfl ?_; intro g1 w1 hg1 hX f1)
        | (go_at_call 62; refine (within_any _ _ _ _).mono ?_; rintro e w2 ⟨rfl, hx⟩; (first | rw [hfm.out] | rw [hvw.out] | rw [hix.out]); replace f1 := f1.ext hx; replace hX := hX.trans hx; clear hx)
        | ((with_reducible refine at_field ?_); (try refine w_yes _ _ _ rfl rfl rfl ?_); refine w_mfield _ _ _ rfl rfl rfl (by omega) ?_)
        | ((with_reducible refine at_load ?_); (try refine w_yes _ _ _ rfl rfl rfl ?_); refine w_fload _ rfl rfl rfl f1 rfl (agg_of (by kernel_rfl)) ?_)
        | fail) <;> (try simp only [Act.put, List.setIfInBounds_toArray, List.set_cons_zero, List.set_cons_succ]))
      go_ret
      exact Keep.intro ⟨by rw [hdec.out]; rfl, hX⟩
    have hix := hide_ (show decide (In 0 1000 d.ix) = true from decide_eq_true qix)
    by_cases qval : VOk d.kd d.vl
    rotate_left
    · have hval := hide_ (show decide (VOk d.kd d.vl) = false from decide_eq_false qval)
      have hdec := hide_ (show decide d.Right = false from decide_eq_false fun h => qval (h.vlOk (by omega)))
      clear h0 hk qix qval
      go_enter Try.func44, Try.ntmps44
      go_wp2_with ((first
        | ((with_reducible refine at_box ?_); refine w_box _ (mRow d u) rfl rfl rfl rfl ?_; intro g1 w1 hg1 hX f1)
        | (go_at_call 62; refine (within_any _ _ _ _).mono ?_; rintro e w2 ⟨rfl, hx⟩; (first | rw [hfm.out] | rw [hvw.out] | rw [hix.out]); replace f1 := f1.ext hx; replace hX := hX.trans hx; clear hx)
        | ((with_reducible refine at_field ?_); (try refine w_yes _ _ _ rfl rfl rfl ?_); refine w_mfield _ _ _ rfl rfl rfl (by omega) ?_)
        | (go_at_call 65; refine (value_any _ _ hvl.out _).mono ?_; rintro e w2 ⟨rfl, hx⟩; rw [hval.out]; replace f1 := f1.ext hx; replace hX := hX.trans hx; clear hx)
        | ((with_reducible refine at_load ?_); (try refine w_yes _ _ _ rfl rfl rfl ?_); refine w_fload _ rfl rfl rfl f1 rfl (agg_of (by kernel_rfl)) ?_)
        | ((with_reducible refine at_store ?_); refine w_fstore (u := .int .i64 0) _ _ rfl rfl rfl rfl rfl f1 (show _ < 13 by first | decide | (simp [mOff, mRow])) rfl rfl (by kernel_rfl) ?_; intro w9 hm f9; replace f1 := f9; replace hX := hm.after hX (fun i e => e ▸ hg1); clear hm f9)
        | fail) <;> (try simp only [Act.put, List.setIfInBounds_toArray, List.set_cons_zero, List.set_cons_succ]))
      go_ret
      exact Keep.intro ⟨by rw [hdec.out]; rfl, hX⟩
    have hval := hide_ (show decide (VOk d.kd d.vl) = true from decide_eq_true qval)
    have hdec := hide_ (fin_6 hk h0 qix qval)
    clear h0 hk qix qval
    go_enter Try.func44, Try.ntmps44
    go_wp2_with ((first
      | ((with_reducible refine at_box ?_); refine w_box _ (mRow d u) rfl rfl rfl rfl ?_; intro g1 w1 hg1 hX f1)
      | (go_at_call 62; refine (within_any _ _ _ _).mono ?_; rintro e w2 ⟨rfl, hx⟩; (first | rw [hfm.out] | rw [hvw.out] | rw [hix.out]); replace f1 := f1.ext hx; replace hX := hX.trans hx; clear hx)
      | (go_at_call 65; refine (value_any _ _ hvl.out _).mono ?_; rintro e w2 ⟨rfl, hx⟩; rw [hval.out]; replace f1 := f1.ext hx; replace hX := hX.trans hx; clear hx)
      | (go_at_call 66; refine (MSame_any (a := ⟨d.kd, d.fm, 0, d.vw, 0, d.pr, d.tx, d.bk⟩) (b := d.bare) (u1 := u) (u2 := .slice none 0 0) (hu.out.ext TxR.stays hX) (OwnT.nil 0 _).recs).mono ?_; rintro e w2 ⟨rfl, hx⟩; replace f1 := f1.ext hx; replace hX := hX.trans hx; clear hx)
      | ((with_reducible refine at_field ?_); (try refine w_yes _ _ _ rfl rfl rfl ?_); refine w_mfield _ _ _ rfl rfl rfl (by omega) ?_)
      | ((with_reducible refine at_load ?_); refine w_loadN Try.stMsg _ (mRow ⟨d.kd, d.fm, 0, d.vw, 0, d.pr, d.tx, d.bk⟩ u) rfl rfl rfl f1 rfl mself_at ?_; replace f1 : Fs _ g1 (mRow ⟨d.kd, d.fm, 0, d.vw, 0, d.pr, d.tx, d.bk⟩ u) := f1)
      | ((with_reducible refine at_load ?_); (try refine w_yes _ _ _ rfl rfl rfl ?_); refine w_fload _ rfl rfl rfl f1 rfl (agg_of (by kernel_rfl)) ?_)
      | ((with_reducible refine at_sbuild ?_); refine w_mbuild (mRow d.bare (.slice none 0 0)) rfl rfl rfl (by intro p hp; simp at hp; rcases hp with rfl | rfl <;> exact ⟨by decide, rfl⟩) ?_)
      | ((with_reducible refine at_store ?_); refine w_fstore (u := .int .i64 0) _ _ rfl rfl rfl rfl rfl f1 (show _ < 13 by first | decide | (simp [mOff, mRow])) rfl rfl (by kernel_rfl) ?_; intro w9 hm f9; replace f1 := f9; replace hX := hm.after hX (fun i e => e ▸ hg1); clear hm f9)
      | fail) <;> (try simp only [Act.put, List.setIfInBounds_toArray, List.set_cons_zero, List.set_cons_succ]))
    go_ret
    exact Keep.intro ⟨by rw [hdec.out]; rfl, hX⟩
  have t6 : (d.kd == 6) = false := by simpa using hk
  have n6 := hk
  clear hk
  by_cases hk : d.kd = 2
  · have t0 : (d.kd == 0) = false := by simp [hk]
    have t1 : (d.kd == 1) = false := by simp [hk]
    have t3 : (d.kd == 3) = false := by simp [hk]
    have t4 : (d.kd == 4) = false := by simp [hk]
    have t5 : (d.kd == 5) = false := by simp [hk]
    have t6 : (d.kd == 6) = false := by simp [hk]
    have t2 : (d.kd == 2) = true := by simp [hk]
    by_cases qval : VOk d.kd d.vl
    rotate_left
    · have hval := hide_ (show decide (VOk d.kd d.vl) = false from decide_eq_false qval)
      have hdec := hide_ (show decide d.Right = false from decide_eq_false fun h => qval (h.vlOk (by omega)))
      clear h0 hk qval
      go_enter Try.func44, Try.ntmps44
      go_wp2_with ((first
        | ((with_reducible refine at_box ?_); refine w_box _ (mRow d u) rfl rfl rfl rfl ?_; intro g1 w1 hg1 hX f1)
        | (go_at_call 62; refine (within_any _ _ _ _).mono ?_; rintro e w2 ⟨rfl, hx⟩; (first | rw [hfm.out] | rw [hvw.out] | rw [hix.out]); replace f1 := f1.ext hx; replace hX := hX.trans hx; clear hx)
        | ((with_reducible refine at_field ?_); (try refine w_yes _ _ _ rfl rfl rfl ?_); refine w_mfield _ _ _ rfl rfl rfl (by omega) ?_)
        | (go_at_call 65; refine (value_any _ _ hvl.out _).mono ?_; rintro e w2 ⟨rfl, hx⟩; rw [hval.out]; replace f1 := f1.ext hx; replace hX := hX.trans hx; clear hx)
        | ((with_reducible refine at_load ?_); (try refine w_yes _ _ _ rfl rfl rfl ?_); refine w_fload _ rfl rfl rfl f1 rfl (agg_of (by kernel_rfl)) ?_)
        | fail) <;> (try simp only [Act.put, List.setIfInBounds_toArray, List.set_cons_zero, List.set_cons_succ]))
      go_ret
      exact Keep.intro ⟨by rw [hdec.out]; rfl, hX⟩
    have hval := hide_ (show decide (VOk d.kd d.vl) = true from decide_eq_true qval)
    have hdec := hide_ (fin_2 hk h0 qval)
    clear h0 hk qval
    go_enter Try.func44, Try.ntmps44
    go_wp2_with ((first
      | ((with_reducible refine at_box ?_); refine w_box _ (mRow d u) rfl rfl rfl rfl ?_; intro g1 w1 hg1 hX f1)
      | (go_at_call 62; refine (within_any _ _ _ _).mono ?_; rintro e w2 ⟨rfl, hx⟩; (first | rw [hfm.out] | rw [hvw.out] | rw [hix.out]); replace f1 := f1.ext hx; replace hX := hX.trans hx; clear hx)
      | (go_at_call 65; refine (value_any _ _ hvl.out _).mono ?_; rintro e w2 ⟨rfl, hx⟩; rw [hval.out]; replace f1 := f1.ext hx; replace hX := hX.trans hx; clear hx)
      | (go_at_call 66; refine (MSame_any (a := ⟨d.kd, d.fm, d.ix, d.vw, 0, d.pr, d.tx, d.bk⟩) (b := d.bare) (u1 := u) (u2 := .slice none 0 0) (hu.out.ext TxR.stays hX) (OwnT.nil 0 _).recs).mono ?_; rintro e w2 ⟨rfl, hx⟩; replace f1 := f1.ext hx; replace hX := hX.trans hx; clear hx)
      | ((with_reducible refine at_field ?_); (try refine w_yes _ _ _ rfl rfl rfl ?_); refine w_mfield _ _ _ rfl rfl rfl (by omega) ?_)
      | ((with_reducible refine at_load ?_); refine w_loadN Try.stMsg _ (mRow ⟨d.kd, d.fm, d.ix, d.vw, 0, d.pr, d.tx, d.bk⟩ u) rfl rfl rfl f1 rfl mself_at ?_; replace f1 : Fs _ g1 (mRow ⟨d.kd, d.fm, d.ix, d.vw, 0, d.pr, d.tx, d.bk⟩ u) := f1)
      | ((with_reducible refine at_load ?_); (try refine w_yes _ _ _ rfl rfl rfl ?_); refine w_fload _ rfl rfl rfl f1 rfl (agg_of (by kernel_rfl)) ?_)
      | ((with_reducible refine at_sbuild ?_); refine w_mbuild (mRow d.bare (.slice none 0 0)) rfl rfl rfl (by intro p hp; simp at hp; rcases hp with rfl | rfl <;> exact ⟨by decide, rfl⟩) ?_)
      | ((with_reducible refine at_store ?_); refine w_fstore (u := .int .i64 0) _ _ rfl rfl rfl rfl rfl f1 (show _ < 13 by first | decide | (simp [mOff, mRow])) rfl rfl (by kernel_rfl) ?_; intro w9 hm f9; replace f1 := f9; replace hX := hm.after hX (fun i e => e ▸ hg1); clear hm f9)
      | fail) <;> (try simp only [Act.put, List.setIfInBounds_toArray, List.set_cons_zero, List.set_cons_succ]))
    go_ret
    exact Keep.intro ⟨by rw [hdec.out]; rfl, hX⟩
  have t2 : (d.kd == 2) = false := by simpa using hk
  have n2 := hk
  clear hk
  have hdec := hide_ (show decide d.Right = false from decide_eq_false fun h => by have := h.kd6; unfold In at this; omega)
  clear h0 n0 n1 n2 n3 n4 n5 n6
  go_enter Try.func44, Try.ntmps44
  go_wp2_with ((first
    | ((with_reducible refine at_box ?_); refine w_box _ (mRow d u) rfl rfl rfl rfl ?_; intro g1 w1 hg1 hX f1)
    | (go_at_call 62; refine (within_any _ _ _ _).mono ?_; rintro e w2 ⟨rfl, hx⟩; (first | rw [hfm.out] | rw [hvw.out] | rw [hix.out]); replace f1 := f1.ext hx; replace hX := hX.trans hx; clear hx)
    | ((with_reducible refine at_field ?_); (try refine w_yes _ _ _ rfl rfl rfl ?_); refine w_mfield _ _ _ rfl rfl rfl (by omega) ?_)
    | ((with_reducible refine at_load ?_); (try refine w_yes _ _ _ rfl rfl rfl ?_); refine w_fload _ rfl rfl rfl f1 rfl (agg_of (by kernel_rfl)) ?_)
    | fail) <;> (try simp only [Act.put, List.setIfInBounds_toArray, List.set_cons_zero, List.set_cons_succ]))
  go_ret
  exact Keep.intro ⟨by rw [hdec.out]; rfl, hX⟩

end Go.Proofs.Ytgbhbifdfcfamaa
