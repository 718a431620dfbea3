/- Right of the document's messages. -/
import Derived.Test.YtgbhbifdfcfamaaMg6
import Derived.Deep.Cut
namespace Go.Proofs.Ytgbhbifdfcfamaa
set_option maxRecDepth 100000
open Go.RowKit

theorem bad_right {d : MsgD} (h : Bad d) : ¬ d.Right := fun r => by
  rcases h with h | h | h
  · exact h.2 (r.txNo h.1)
  · exact h.2 (r.bkNo h.1)
  · exact h.2 (r.prNo h.1)
set_option maxRecDepth 100000 in
set_option maxHeartbeats 6400000 in
theorem refMRight_any {w : World} {u : Value} {d : MsgD} (hu : Recs 2 TxR w u d.bk.txs) (hvl : I64 d.vl) (hp : I64 d.bk.parent) : Calls Try.prog 35 #[.agg (mRow d u).toArray] w fun e w' => e = .returned (.bool (decide d.Right)) ∧ Ext w w' := by
  refine calls_keep ?_
  replace hu := hide_ hu
  replace hvl := hide_ hvl
  replace hp := hide_ hp
  by_cases a0 : 0 ≤ d.fm
  rotate_left
  · have ta0 : decide (d.fm < 0) = true := by simp; omega
    have hdec := hide_ (show decide d.Right = false from decide_eq_false fun h => by have := h.fm; unfold In at this; omega)
    clear a0
    go_enter Try.func35, Try.ntmps35
    go_wp2_with ((first
      | go_big_skip
      | ((with_reducible refine at_box ?_); refine w_box _ (mRow d u) rfl rfl rfl rfl ?_; intro g1 w1 hg1 hX f1)
      | ((with_reducible refine at_field ?_); (try refine w_yes _ _ _ rfl rfl rfl ?_); refine w_mfield _ _ _ rfl rfl rfl (by omega) ?_)
      | ((with_reducible refine at_load ?_); (try refine w_yes _ _ _ rfl rfl rfl ?_); refine w_fload _ rfl rfl rfl f1 rfl (agg_of (by kernel_rfl)) ?_)
      | fail) <;> (try simp only [Act.put, List.setIfInBounds_toArray, List.set_cons_zero, List.set_cons_succ]))
    go_ret
    exact Keep.intro ⟨by rw [hdec.out]; rfl, hX⟩
  have ta0 : decide (d.fm < 0) = false := by simp; omega
  by_cases a1 : d.fm ≤ 6
  rotate_left
  · have ta1 : decide (6 < d.fm) = true := by simp; omega
    have hdec := hide_ (show decide d.Right = false from decide_eq_false fun h => by have := h.fm; unfold In at this; omega)
    clear a0 a1
    go_enter Try.func35, Try.ntmps35
    go_wp2_with ((first
      | go_big_skip
      | ((with_reducible refine at_box ?_); refine w_box _ (mRow d u) rfl rfl rfl rfl ?_; intro g1 w1 hg1 hX f1)
      | ((with_reducible refine at_field ?_); (try refine w_yes _ _ _ rfl rfl rfl ?_); refine w_mfield _ _ _ rfl rfl rfl (by omega) ?_)
      | ((with_reducible refine at_load ?_); (try refine w_yes _ _ _ rfl rfl rfl ?_); refine w_fload _ rfl rfl rfl f1 rfl (agg_of (by kernel_rfl)) ?_)
      | fail) <;> (try simp only [Act.put, List.setIfInBounds_toArray, List.set_cons_zero, List.set_cons_succ]))
    go_ret
    exact Keep.intro ⟨by rw [hdec.out]; rfl, hX⟩
  have ta1 : decide (6 < d.fm) = false := by simp; omega
  have hfm : In 0 6 d.fm := ⟨a0, a1⟩
  clear a0 a1
  replace hfm := hide_ hfm
  go_enter Try.func35, Try.ntmps35
  go_upto_region 3 with ((first
    | go_big_skip
    | ((with_reducible refine at_box ?_); refine w_box _ (mRow d u) rfl rfl rfl rfl ?_; intro g1 w1 hg1 hX f1)
    | ((with_reducible refine at_field ?_); (try refine w_yes _ _ _ rfl rfl rfl ?_); refine w_mfield _ _ _ rfl rfl rfl (by omega) ?_)
    | ((with_reducible refine at_load ?_); (try refine w_yes _ _ _ rfl rfl rfl ?_); refine w_fload _ rfl rfl rfl f1 rfl (agg_of (by kernel_rfl)) ?_)
    | fail) <;> (try simp only [Act.put, List.setIfInBounds_toArray, List.set_cons_zero, List.set_cons_succ]))
  go_cut [42] from 5 (fun b w' => b = .bool (decide (Bad d)) ∧ Fs w' g1 (mRow d u) ∧ Ext w w')
  case first =>
    by_cases p0 : d.kd = 0
    · have t0 : (d.kd != 0) = false := by simp [p0]
      by_cases p1 : d.kd = 1
      · omega
      have t1 : (d.kd != 1) = true := by simpa using p1
      by_cases pb : d.bk = BlkD.zero
      · have tbk := hide_ (decide_eq_true pb)
        by_cases p3 : d.kd = 3
        · omega
        have t3 : (d.kd != 3) = true := by simpa using p3
        by_cases pp : d.pr = 0
        · have tp : (d.pr != 0) = false := by simp [pp]
          have hdec := hide_ (show decide (Bad d) = false from decide_eq_false (fun h => by rcases h with h | h | h; exact h.1 p0; exact h.2 pb; exact h.2 pp))
          (try clear pb); (try clear pt); (try clear pp); (try clear p0); (try clear p1); (try clear p3)
          go_wp2_with ((first
            | go_big_skip
            | (go_at_call 55; refine (empty_any (b := d.bk) (u := u) (hu.out.ext TxR.stays hX)).mono ?_; rintro e w3 ⟨rfl, hx⟩; rw [tbk.out]; replace f1 := f1.ext hx; replace hX := hX.trans hx; clear hx)
            | ((with_reducible refine at_field ?_); (try refine w_yes _ _ _ rfl rfl rfl ?_); refine w_mfield _ _ _ rfl rfl rfl (by omega) ?_)
            | ((with_reducible refine at_load ?_); (try refine w_yes _ _ _ rfl rfl rfl ?_); refine w_loadN Try.stTxM _ (tRw d.tx) rfl rfl rfl f1 rfl (mtx_at d u) ?_)
            | ((with_reducible refine at_load ?_); (try refine w_yes _ _ _ rfl rfl rfl ?_); refine w_loadN Try.stBlkM _ (bRw d.bk u) rfl rfl rfl f1 rfl (mbk_at d u) ?_)
            | ((with_reducible refine at_load ?_); (try refine w_yes _ _ _ rfl rfl rfl ?_); refine w_fload _ rfl rfl rfl f1 rfl (agg_of (by kernel_rfl)) ?_)
            | ((with_reducible refine at_sbuild ?_); (try refine w_yes _ _ _ rfl rfl rfl ?_); refine w_sbuild Try.stTx [.int .i64 0, .int .i64 0] rfl rfl rfl (by intro p hp; simp at hp) ?_)
            | ((with_reducible refine at_bin ?_); (try refine w_yes _ _ _ rfl rfl rfl ?_); refine w_txne _ _ d.tx TxD.zero rfl rfl rfl rfl ?_; rw [ttx])
            | fail) <;> (try simp only [Act.put, List.setIfInBounds_toArray, List.set_cons_zero, List.set_cons_succ]))
          go_meet
          case rel => exact ⟨by rw [hdec.out], f1, hX⟩
        have tp : (d.pr != 0) = true := by simpa using pp
        have hdec := hide_ (show decide (Bad d) = true from decide_eq_true (.inr (.inr ⟨p3, pp⟩)))
        (try clear pb); (try clear pt); (try clear pp); (try clear p0); (try clear p1); (try clear p3)
        go_wp2_with ((first
          | go_big_skip
          | (go_at_call 55; refine (empty_any (b := d.bk) (u := u) (hu.out.ext TxR.stays hX)).mono ?_; rintro e w3 ⟨rfl, hx⟩; rw [tbk.out]; replace f1 := f1.ext hx; replace hX := hX.trans hx; clear hx)
          | ((with_reducible refine at_field ?_); (try refine w_yes _ _ _ rfl rfl rfl ?_); refine w_mfield _ _ _ rfl rfl rfl (by omega) ?_)
          | ((with_reducible refine at_load ?_); (try refine w_yes _ _ _ rfl rfl rfl ?_); refine w_loadN Try.stTxM _ (tRw d.tx) rfl rfl rfl f1 rfl (mtx_at d u) ?_)
          | ((with_reducible refine at_load ?_); (try refine w_yes _ _ _ rfl rfl rfl ?_); refine w_loadN Try.stBlkM _ (bRw d.bk u) rfl rfl rfl f1 rfl (mbk_at d u) ?_)
          | ((with_reducible refine at_load ?_); (try refine w_yes _ _ _ rfl rfl rfl ?_); refine w_fload _ rfl rfl rfl f1 rfl (agg_of (by kernel_rfl)) ?_)
          | ((with_reducible refine at_sbuild ?_); (try refine w_yes _ _ _ rfl rfl rfl ?_); refine w_sbuild Try.stTx [.int .i64 0, .int .i64 0] rfl rfl rfl (by intro p hp; simp at hp) ?_)
          | ((with_reducible refine at_bin ?_); (try refine w_yes _ _ _ rfl rfl rfl ?_); refine w_txne _ _ d.tx TxD.zero rfl rfl rfl rfl ?_; rw [ttx])
          | fail) <;> (try simp only [Act.put, List.setIfInBounds_toArray, List.set_cons_zero, List.set_cons_succ]))
        go_meet
        case rel => exact ⟨by rw [hdec.out], f1, hX⟩
      have tbk := hide_ (decide_eq_false pb)
      have hdec := hide_ (show decide (Bad d) = true from decide_eq_true (.inr (.inl ⟨p1, pb⟩)))
      (try clear pb); (try clear pt); (try clear pp); (try clear p0); (try clear p1); (try clear p3)
      go_wp2_with ((first
        | go_big_skip
        | (go_at_call 55; refine (empty_any (b := d.bk) (u := u) (hu.out.ext TxR.stays hX)).mono ?_; rintro e w3 ⟨rfl, hx⟩; rw [tbk.out]; replace f1 := f1.ext hx; replace hX := hX.trans hx; clear hx)
        | ((with_reducible refine at_field ?_); (try refine w_yes _ _ _ rfl rfl rfl ?_); refine w_mfield _ _ _ rfl rfl rfl (by omega) ?_)
        | ((with_reducible refine at_load ?_); (try refine w_yes _ _ _ rfl rfl rfl ?_); refine w_loadN Try.stTxM _ (tRw d.tx) rfl rfl rfl f1 rfl (mtx_at d u) ?_)
        | ((with_reducible refine at_load ?_); (try refine w_yes _ _ _ rfl rfl rfl ?_); refine w_loadN Try.stBlkM _ (bRw d.bk u) rfl rfl rfl f1 rfl (mbk_at d u) ?_)
        | ((with_reducible refine at_load ?_); (try refine w_yes _ _ _ rfl rfl rfl ?_); refine w_fload _ rfl rfl rfl f1 rfl (agg_of (by kernel_rfl)) ?_)
        | ((with_reducible refine at_sbuild ?_); (try refine w_yes _ _ _ rfl rfl rfl ?_); refine w_sbuild Try.stTx [.int .i64 0, .int .i64 0] rfl rfl rfl (by intro p hp; simp at hp) ?_)
        | ((with_reducible refine at_bin ?_); (try refine w_yes _ _ _ rfl rfl rfl ?_); refine w_txne _ _ d.tx TxD.zero rfl rfl rfl rfl ?_; rw [ttx])
        | fail) <;> (try simp only [Act.put, List.setIfInBounds_toArray, List.set_cons_zero, List.set_cons_succ]))
      go_meet
      case rel => exact ⟨by rw [hdec.out], f1, hX⟩
    have t0 : (d.kd != 0) = true := by simpa using p0
    by_cases pt : d.tx = TxD.zero
    · have ttx := decide_eq_true pt
      by_cases p1 : d.kd = 1
      · have t1 : (d.kd != 1) = false := by simp [p1]
        by_cases p3 : d.kd = 3
        · omega
        have t3 : (d.kd != 3) = true := by simpa using p3
        by_cases pp : d.pr = 0
        · have tp : (d.pr != 0) = false := by simp [pp]
          have hdec := hide_ (show decide (Bad d) = false from decide_eq_false (fun h => by rcases h with h | h | h; exact h.2 pt; exact h.1 p1; exact h.2 pp))
          (try clear pb); (try clear pt); (try clear pp); (try clear p0); (try clear p1); (try clear p3)
          go_wp2_with ((first
            | go_big_skip
            | (go_at_call 55; refine (empty_any (b := d.bk) (u := u) (hu.out.ext TxR.stays hX)).mono ?_; rintro e w3 ⟨rfl, hx⟩; rw [tbk.out]; replace f1 := f1.ext hx; replace hX := hX.trans hx; clear hx)
            | ((with_reducible refine at_field ?_); (try refine w_yes _ _ _ rfl rfl rfl ?_); refine w_mfield _ _ _ rfl rfl rfl (by omega) ?_)
            | ((with_reducible refine at_load ?_); (try refine w_yes _ _ _ rfl rfl rfl ?_); refine w_loadN Try.stTxM _ (tRw d.tx) rfl rfl rfl f1 rfl (mtx_at d u) ?_)
            | ((with_reducible refine at_load ?_); (try refine w_yes _ _ _ rfl rfl rfl ?_); refine w_loadN Try.stBlkM _ (bRw d.bk u) rfl rfl rfl f1 rfl (mbk_at d u) ?_)
            | ((with_reducible refine at_load ?_); (try refine w_yes _ _ _ rfl rfl rfl ?_); refine w_fload _ rfl rfl rfl f1 rfl (agg_of (by kernel_rfl)) ?_)
            | ((with_reducible refine at_sbuild ?_); (try refine w_yes _ _ _ rfl rfl rfl ?_); refine w_sbuild Try.stTx [.int .i64 0, .int .i64 0] rfl rfl rfl (by intro p hp; simp at hp) ?_)
            | ((with_reducible refine at_bin ?_); (try refine w_yes _ _ _ rfl rfl rfl ?_); refine w_txne _ _ d.tx TxD.zero rfl rfl rfl rfl ?_; rw [ttx])
            | fail) <;> (try simp only [Act.put, List.setIfInBounds_toArray, List.set_cons_zero, List.set_cons_succ]))
          go_meet
          case rel => exact ⟨by rw [hdec.out], f1, hX⟩
        have tp : (d.pr != 0) = true := by simpa using pp
        have hdec := hide_ (show decide (Bad d) = true from decide_eq_true (.inr (.inr ⟨p3, pp⟩)))
        (try clear pb); (try clear pt); (try clear pp); (try clear p0); (try clear p1); (try clear p3)
        go_wp2_with ((first
          | go_big_skip
          | (go_at_call 55; refine (empty_any (b := d.bk) (u := u) (hu.out.ext TxR.stays hX)).mono ?_; rintro e w3 ⟨rfl, hx⟩; rw [tbk.out]; replace f1 := f1.ext hx; replace hX := hX.trans hx; clear hx)
          | ((with_reducible refine at_field ?_); (try refine w_yes _ _ _ rfl rfl rfl ?_); refine w_mfield _ _ _ rfl rfl rfl (by omega) ?_)
          | ((with_reducible refine at_load ?_); (try refine w_yes _ _ _ rfl rfl rfl ?_); refine w_loadN Try.stTxM _ (tRw d.tx) rfl rfl rfl f1 rfl (mtx_at d u) ?_)
          | ((with_reducible refine at_load ?_); (try refine w_yes _ _ _ rfl rfl rfl ?_); refine w_loadN Try.stBlkM _ (bRw d.bk u) rfl rfl rfl f1 rfl (mbk_at d u) ?_)
          | ((with_reducible refine at_load ?_); (try refine w_yes _ _ _ rfl rfl rfl ?_); refine w_fload _ rfl rfl rfl f1 rfl (agg_of (by kernel_rfl)) ?_)
          | ((with_reducible refine at_sbuild ?_); (try refine w_yes _ _ _ rfl rfl rfl ?_); refine w_sbuild Try.stTx [.int .i64 0, .int .i64 0] rfl rfl rfl (by intro p hp; simp at hp) ?_)
          | ((with_reducible refine at_bin ?_); (try refine w_yes _ _ _ rfl rfl rfl ?_); refine w_txne _ _ d.tx TxD.zero rfl rfl rfl rfl ?_; rw [ttx])
          | fail) <;> (try simp only [Act.put, List.setIfInBounds_toArray, List.set_cons_zero, List.set_cons_succ]))
        go_meet
        case rel => exact ⟨by rw [hdec.out], f1, hX⟩
      have t1 : (d.kd != 1) = true := by simpa using p1
      by_cases pb : d.bk = BlkD.zero
      · have tbk := hide_ (decide_eq_true pb)
        by_cases p3 : d.kd = 3
        · have t3 : (d.kd != 3) = false := by simp [p3]
          have hdec := hide_ (show decide (Bad d) = false from decide_eq_false (fun h => by rcases h with h | h | h; exact h.2 pt; exact h.2 pb; exact h.1 p3))
          (try clear pb); (try clear pt); (try clear pp); (try clear p0); (try clear p1); (try clear p3)
          go_wp2_with ((first
            | go_big_skip
            | (go_at_call 55; refine (empty_any (b := d.bk) (u := u) (hu.out.ext TxR.stays hX)).mono ?_; rintro e w3 ⟨rfl, hx⟩; rw [tbk.out]; replace f1 := f1.ext hx; replace hX := hX.trans hx; clear hx)
            | ((with_reducible refine at_field ?_); (try refine w_yes _ _ _ rfl rfl rfl ?_); refine w_mfield _ _ _ rfl rfl rfl (by omega) ?_)
            | ((with_reducible refine at_load ?_); (try refine w_yes _ _ _ rfl rfl rfl ?_); refine w_loadN Try.stTxM _ (tRw d.tx) rfl rfl rfl f1 rfl (mtx_at d u) ?_)
            | ((with_reducible refine at_load ?_); (try refine w_yes _ _ _ rfl rfl rfl ?_); refine w_loadN Try.stBlkM _ (bRw d.bk u) rfl rfl rfl f1 rfl (mbk_at d u) ?_)
            | ((with_reducible refine at_load ?_); (try refine w_yes _ _ _ rfl rfl rfl ?_); refine w_fload _ rfl rfl rfl f1 rfl (agg_of (by kernel_rfl)) ?_)
            | ((with_reducible refine at_sbuild ?_); (try refine w_yes _ _ _ rfl rfl rfl ?_); refine w_sbuild Try.stTx [.int .i64 0, .int .i64 0] rfl rfl rfl (by intro p hp; simp at hp) ?_)
            | ((with_reducible refine at_bin ?_); (try refine w_yes _ _ _ rfl rfl rfl ?_); refine w_txne _ _ d.tx TxD.zero rfl rfl rfl rfl ?_; rw [ttx])
            | fail) <;> (try simp only [Act.put, List.setIfInBounds_toArray, List.set_cons_zero, List.set_cons_succ]))
          go_meet
          case rel => exact ⟨by rw [hdec.out], f1, hX⟩
        have t3 : (d.kd != 3) = true := by simpa using p3
        by_cases pp : d.pr = 0
        · have tp : (d.pr != 0) = false := by simp [pp]
          have hdec := hide_ (show decide (Bad d) = false from decide_eq_false (fun h => by rcases h with h | h | h; exact h.2 pt; exact h.2 pb; exact h.2 pp))
          (try clear pb); (try clear pt); (try clear pp); (try clear p0); (try clear p1); (try clear p3)
          go_wp2_with ((first
            | go_big_skip
            | (go_at_call 55; refine (empty_any (b := d.bk) (u := u) (hu.out.ext TxR.stays hX)).mono ?_; rintro e w3 ⟨rfl, hx⟩; rw [tbk.out]; replace f1 := f1.ext hx; replace hX := hX.trans hx; clear hx)
            | ((with_reducible refine at_field ?_); (try refine w_yes _ _ _ rfl rfl rfl ?_); refine w_mfield _ _ _ rfl rfl rfl (by omega) ?_)
            | ((with_reducible refine at_load ?_); (try refine w_yes _ _ _ rfl rfl rfl ?_); refine w_loadN Try.stTxM _ (tRw d.tx) rfl rfl rfl f1 rfl (mtx_at d u) ?_)
            | ((with_reducible refine at_load ?_); (try refine w_yes _ _ _ rfl rfl rfl ?_); refine w_loadN Try.stBlkM _ (bRw d.bk u) rfl rfl rfl f1 rfl (mbk_at d u) ?_)
            | ((with_reducible refine at_load ?_); (try refine w_yes _ _ _ rfl rfl rfl ?_); refine w_fload _ rfl rfl rfl f1 rfl (agg_of (by kernel_rfl)) ?_)
            | ((with_reducible refine at_sbuild ?_); (try refine w_yes _ _ _ rfl rfl rfl ?_); refine w_sbuild Try.stTx [.int .i64 0, .int .i64 0] rfl rfl rfl (by intro p hp; simp at hp) ?_)
            | ((with_reducible refine at_bin ?_); (try refine w_yes _ _ _ rfl rfl rfl ?_); refine w_txne _ _ d.tx TxD.zero rfl rfl rfl rfl ?_; rw [ttx])
            | fail) <;> (try simp only [Act.put, List.setIfInBounds_toArray, List.set_cons_zero, List.set_cons_succ]))
          go_meet
          case rel => exact ⟨by rw [hdec.out], f1, hX⟩
        have tp : (d.pr != 0) = true := by simpa using pp
        have hdec := hide_ (show decide (Bad d) = true from decide_eq_true (.inr (.inr ⟨p3, pp⟩)))
        (try clear pb); (try clear pt); (try clear pp); (try clear p0); (try clear p1); (try clear p3)
        go_wp2_with ((first
          | go_big_skip
          | (go_at_call 55; refine (empty_any (b := d.bk) (u := u) (hu.out.ext TxR.stays hX)).mono ?_; rintro e w3 ⟨rfl, hx⟩; rw [tbk.out]; replace f1 := f1.ext hx; replace hX := hX.trans hx; clear hx)
          | ((with_reducible refine at_field ?_); (try refine w_yes _ _ _ rfl rfl rfl ?_); refine w_mfield _ _ _ rfl rfl rfl (by omega) ?_)
          | ((with_reducible refine at_load ?_); (try refine w_yes _ _ _ rfl rfl rfl ?_); refine w_loadN Try.stTxM _ (tRw d.tx) rfl rfl rfl f1 rfl (mtx_at d u) ?_)
          | ((with_reducible refine at_load ?_); (try refine w_yes _ _ _ rfl rfl rfl ?_); refine w_loadN Try.stBlkM _ (bRw d.bk u) rfl rfl rfl f1 rfl (mbk_at d u) ?_)
          | ((with_reducible refine at_load ?_); (try refine w_yes _ _ _ rfl rfl rfl ?_); refine w_fload _ rfl rfl rfl f1 rfl (agg_of (by kernel_rfl)) ?_)
          | ((with_reducible refine at_sbuild ?_); (try refine w_yes _ _ _ rfl rfl rfl ?_); refine w_sbuild Try.stTx [.int .i64 0, .int .i64 0] rfl rfl rfl (by intro p hp; simp at hp) ?_)
          | ((with_reducible refine at_bin ?_); (try refine w_yes _ _ _ rfl rfl rfl ?_); refine w_txne _ _ d.tx TxD.zero rfl rfl rfl rfl ?_; rw [ttx])
          | fail) <;> (try simp only [Act.put, List.setIfInBounds_toArray, List.set_cons_zero, List.set_cons_succ]))
        go_meet
        case rel => exact ⟨by rw [hdec.out], f1, hX⟩
      have tbk := hide_ (decide_eq_false pb)
      have hdec := hide_ (show decide (Bad d) = true from decide_eq_true (.inr (.inl ⟨p1, pb⟩)))
      (try clear pb); (try clear pt); (try clear pp); (try clear p0); (try clear p1); (try clear p3)
      go_wp2_with ((first
        | go_big_skip
        | (go_at_call 55; refine (empty_any (b := d.bk) (u := u) (hu.out.ext TxR.stays hX)).mono ?_; rintro e w3 ⟨rfl, hx⟩; rw [tbk.out]; replace f1 := f1.ext hx; replace hX := hX.trans hx; clear hx)
        | ((with_reducible refine at_field ?_); (try refine w_yes _ _ _ rfl rfl rfl ?_); refine w_mfield _ _ _ rfl rfl rfl (by omega) ?_)
        | ((with_reducible refine at_load ?_); (try refine w_yes _ _ _ rfl rfl rfl ?_); refine w_loadN Try.stTxM _ (tRw d.tx) rfl rfl rfl f1 rfl (mtx_at d u) ?_)
        | ((with_reducible refine at_load ?_); (try refine w_yes _ _ _ rfl rfl rfl ?_); refine w_loadN Try.stBlkM _ (bRw d.bk u) rfl rfl rfl f1 rfl (mbk_at d u) ?_)
        | ((with_reducible refine at_load ?_); (try refine w_yes _ _ _ rfl rfl rfl ?_); refine w_fload _ rfl rfl rfl f1 rfl (agg_of (by kernel_rfl)) ?_)
        | ((with_reducible refine at_sbuild ?_); (try refine w_yes _ _ _ rfl rfl rfl ?_); refine w_sbuild Try.stTx [.int .i64 0, .int .i64 0] rfl rfl rfl (by intro p hp; simp at hp) ?_)
        | ((with_reducible refine at_bin ?_); (try refine w_yes _ _ _ rfl rfl rfl ?_); refine w_txne _ _ d.tx TxD.zero rfl rfl rfl rfl ?_; rw [ttx])
        | fail) <;> (try simp only [Act.put, List.setIfInBounds_toArray, List.set_cons_zero, List.set_cons_succ]))
      go_meet
      case rel => exact ⟨by rw [hdec.out], f1, hX⟩
    have ttx := decide_eq_false pt
    have hdec := hide_ (show decide (Bad d) = true from decide_eq_true (.inl ⟨p0, pt⟩))
    (try clear pb); (try clear pt); (try clear pp); (try clear p0); (try clear p1); (try clear p3)
    go_wp2_with ((first
      | go_big_skip
      | (go_at_call 55; refine (empty_any (b := d.bk) (u := u) (hu.out.ext TxR.stays hX)).mono ?_; rintro e w3 ⟨rfl, hx⟩; rw [tbk.out]; replace f1 := f1.ext hx; replace hX := hX.trans hx; clear hx)
      | ((with_reducible refine at_field ?_); (try refine w_yes _ _ _ rfl rfl rfl ?_); refine w_mfield _ _ _ rfl rfl rfl (by omega) ?_)
      | ((with_reducible refine at_load ?_); (try refine w_yes _ _ _ rfl rfl rfl ?_); refine w_loadN Try.stTxM _ (tRw d.tx) rfl rfl rfl f1 rfl (mtx_at d u) ?_)
      | ((with_reducible refine at_load ?_); (try refine w_yes _ _ _ rfl rfl rfl ?_); refine w_loadN Try.stBlkM _ (bRw d.bk u) rfl rfl rfl f1 rfl (mbk_at d u) ?_)
      | ((with_reducible refine at_load ?_); (try refine w_yes _ _ _ rfl rfl rfl ?_); refine w_fload _ rfl rfl rfl f1 rfl (agg_of (by kernel_rfl)) ?_)
      | ((with_reducible refine at_sbuild ?_); (try refine w_yes _ _ _ rfl rfl rfl ?_); refine w_sbuild Try.stTx [.int .i64 0, .int .i64 0] rfl rfl rfl (by intro p hp; simp at hp) ?_)
      | ((with_reducible refine at_bin ?_); (try refine w_yes _ _ _ rfl rfl rfl ?_); refine w_txne _ _ d.tx TxD.zero rfl rfl rfl rfl ?_; rw [ttx])
      | fail) <;> (try simp only [Act.put, List.setIfInBounds_toArray, List.set_cons_zero, List.set_cons_succ]))
    go_meet
    case rel => exact ⟨by rw [hdec.out], f1, hX⟩
  case rest =>
    obtain ⟨hb, f1, hX⟩ := hcut
    by_cases hbad : Bad d
    · rw [decide_eq_true hbad] at hb; subst hb
      have hdec := hide_ (show decide d.Right = false from decide_eq_false (bad_right hbad))
      clear hbad
      go_wp2_with ((first
        | go_big_skip
        | ((with_reducible refine at_field ?_); (try refine w_yes _ _ _ rfl rfl rfl ?_); refine w_mfield _ _ _ rfl rfl rfl (by omega) ?_)
        | ((with_reducible refine at_load ?_); (try refine w_yes _ _ _ rfl rfl rfl ?_); refine w_fload _ rfl rfl rfl f1 rfl (agg_of (by kernel_rfl)) ?_)
        | fail) <;> (try simp only [Act.put, List.setIfInBounds_toArray, List.set_cons_zero, List.set_cons_succ]))
      go_ret
      exact Keep.intro ⟨by rw [hdec.out]; rfl, hX⟩
    rw [decide_eq_false hbad] at hb; subst hb
    have hgood := hide_ hbad
    clear hbad
    go_upto_region 5 with ((first
      | go_big_skip
      | ((with_reducible refine at_field ?_); (try refine w_yes _ _ _ rfl rfl rfl ?_); refine w_mfield _ _ _ rfl rfl rfl (by omega) ?_)
      | ((with_reducible refine at_load ?_); (try refine w_yes _ _ _ rfl rfl rfl ?_); refine w_fload _ rfl rfl rfl f1 rfl (agg_of (by kernel_rfl)) ?_)
      | fail) <;> (try simp only [Act.put, List.setIfInBounds_toArray, List.set_cons_zero, List.set_cons_succ]))
    go_cut [3] from 5 (fun b w' => b = .bool (decide (In 0 1000 d.vw)) ∧ Fs w' g1 (mRow d u) ∧ Ext w w')
    case first =>
      by_cases q0 : 0 ≤ d.vw
      rotate_left
      · have t0 : decide (0 ≤ d.vw) = false := by simp; omega
        have hdec := hide_ (show decide (In 0 1000 d.vw) = false from decide_eq_false fun h => q0 h.1)
        go_wp2_with ((first
          | go_big_skip
          | ((with_reducible refine at_field ?_); (try refine w_yes _ _ _ rfl rfl rfl ?_); refine w_mfield _ _ _ rfl rfl rfl (by omega) ?_)
          | ((with_reducible refine at_load ?_); (try refine w_yes _ _ _ rfl rfl rfl ?_); refine w_fload _ rfl rfl rfl f1 rfl (agg_of (by kernel_rfl)) ?_)
          | fail) <;> (try simp only [Act.put, List.setIfInBounds_toArray, List.set_cons_zero, List.set_cons_succ]))
        go_meet
        case rel => exact ⟨by rw [hdec.out], f1, hX⟩
      have t0 : decide (0 ≤ d.vw) = true := by simp; omega
      have hdec := hide_ (show decide (In 0 1000 d.vw) = decide (d.vw ≤ 1000) from decide_eq_decide.2 ⟨fun h => h.2, fun h => ⟨q0, h⟩⟩)
      go_wp2_with ((first
        | go_big_skip
        | ((with_reducible refine at_field ?_); (try refine w_yes _ _ _ rfl rfl rfl ?_); refine w_mfield _ _ _ rfl rfl rfl (by omega) ?_)
        | ((with_reducible refine at_load ?_); (try refine w_yes _ _ _ rfl rfl rfl ?_); refine w_fload _ rfl rfl rfl f1 rfl (agg_of (by kernel_rfl)) ?_)
        | fail) <;> (try simp only [Act.put, List.setIfInBounds_toArray, List.set_cons_zero, List.set_cons_succ]))
      go_meet
      case rel => exact ⟨by rw [hdec.out], f1, hX⟩
    case rest =>
      obtain ⟨hva, f1, hX⟩ := hcut
      go_upto_region 6 with ((first
        | go_big_skip
        | ((with_reducible refine at_field ?_); (try refine w_yes _ _ _ rfl rfl rfl ?_); refine w_mfield _ _ _ rfl rfl rfl (by omega) ?_)
        | ((with_reducible refine at_load ?_); (try refine w_yes _ _ _ rfl rfl rfl ?_); refine w_fload _ rfl rfl rfl f1 rfl (agg_of (by kernel_rfl)) ?_)
        | fail) <;> (try simp only [Act.put, List.setIfInBounds_toArray, List.set_cons_zero, List.set_cons_succ]))
      go_cut [3, 4] from 5 (fun a b w' => a = .bool (decide (In 0 1000 d.vw)) ∧ b = .bool (decide (In 0 1000 d.ix)) ∧ Fs w' g1 (mRow d u) ∧ Ext w w')
      case first =>
        by_cases q0 : 0 ≤ d.ix
        rotate_left
        · have t0 : decide (0 ≤ d.ix) = false := by simp; omega
          have hdec := hide_ (show decide (In 0 1000 d.ix) = false from decide_eq_false fun h => q0 h.1)
          go_wp2_with ((first
            | go_big_skip
            | ((with_reducible refine at_field ?_); (try refine w_yes _ _ _ rfl rfl rfl ?_); refine w_mfield _ _ _ rfl rfl rfl (by omega) ?_)
            | ((with_reducible refine at_load ?_); (try refine w_yes _ _ _ rfl rfl rfl ?_); refine w_fload _ rfl rfl rfl f1 rfl (agg_of (by kernel_rfl)) ?_)
            | fail) <;> (try simp only [Act.put, List.setIfInBounds_toArray, List.set_cons_zero, List.set_cons_succ]))
          go_meet
          case rel => exact ⟨(by first | exact hva | rfl), by rw [hdec.out], f1, hX⟩
        have t0 : decide (0 ≤ d.ix) = true := by simp; omega
        have hdec := hide_ (show decide (In 0 1000 d.ix) = decide (d.ix ≤ 1000) from decide_eq_decide.2 ⟨fun h => h.2, fun h => ⟨q0, h⟩⟩)
        go_wp2_with ((first
          | go_big_skip
          | ((with_reducible refine at_field ?_); (try refine w_yes _ _ _ rfl rfl rfl ?_); refine w_mfield _ _ _ rfl rfl rfl (by omega) ?_)
          | ((with_reducible refine at_load ?_); (try refine w_yes _ _ _ rfl rfl rfl ?_); refine w_fload _ rfl rfl rfl f1 rfl (agg_of (by kernel_rfl)) ?_)
          | fail) <;> (try simp only [Act.put, List.setIfInBounds_toArray, List.set_cons_zero, List.set_cons_succ]))
        go_meet
        case rel => exact ⟨(by first | exact hva | rfl), by rw [hdec.out], f1, hX⟩
      case rest =>
        obtain ⟨hva, hia, f1, hX⟩ := hcut
        subst hva hia
        by_cases k0 : d.kd = 0
        · have s0 : (d.kd == 0) = true := by simp [k0]
          have hgd := hgood.out
          by_cases zi : d.ix = 0
          rotate_left
          · have tzi : (d.ix == 0) = false := by simpa using zi
            have hdec := hide_ (show decide d.Right = false from decide_eq_false fun h => zi (h.ixNo (by omega)))
            clear hgd k0 zi
            go_wp2_with ((first
              | go_big_skip
              | ((with_reducible refine at_field ?_); (try refine w_yes _ _ _ rfl rfl rfl ?_); refine w_mfield _ _ _ rfl rfl rfl (by omega) ?_)
              | ((with_reducible refine at_load ?_); (try refine w_yes _ _ _ rfl rfl rfl ?_); refine w_fload _ rfl rfl rfl f1 rfl (agg_of (by kernel_rfl)) ?_)
              | fail) <;> (try simp only [Act.put, List.setIfInBounds_toArray, List.set_cons_zero, List.set_cons_succ]))
            go_ret
            exact Keep.intro ⟨by rw [hdec.out]; rfl, hX⟩
          have tzi : (d.ix == 0) = true := by simpa using zi
          by_cases zv : d.vw = 0
          rotate_left
          · have tzv : (d.vw == 0) = false := by simpa using zv
            have hdec := hide_ (show decide d.Right = false from decide_eq_false fun h => zv (h.vwNo (by omega)))
            clear hgd k0 zi zv
            go_wp2_with ((first
              | go_big_skip
              | ((with_reducible refine at_field ?_); (try refine w_yes _ _ _ rfl rfl rfl ?_); refine w_mfield _ _ _ rfl rfl rfl (by omega) ?_)
              | ((with_reducible refine at_load ?_); (try refine w_yes _ _ _ rfl rfl rfl ?_); refine w_fload _ rfl rfl rfl f1 rfl (agg_of (by kernel_rfl)) ?_)
              | fail) <;> (try simp only [Act.put, List.setIfInBounds_toArray, List.set_cons_zero, List.set_cons_succ]))
            go_ret
            exact Keep.intro ⟨by rw [hdec.out]; rfl, hX⟩
          have tzv : (d.vw == 0) = true := by simpa using zv
          by_cases zl : d.vl = 0
          rotate_left
          · have tzl : (d.vl == 0) = false := by simpa using zl
            have hdec := hide_ (show decide d.Right = false from decide_eq_false fun h => zl (h.vlNo (by omega)))
            clear hgd k0 zi zv zl
            go_wp2_with ((first
              | go_big_skip
              | ((with_reducible refine at_field ?_); (try refine w_yes _ _ _ rfl rfl rfl ?_); refine w_mfield _ _ _ rfl rfl rfl (by omega) ?_)
              | ((with_reducible refine at_load ?_); (try refine w_yes _ _ _ rfl rfl rfl ?_); refine w_fload _ rfl rfl rfl f1 rfl (agg_of (by kernel_rfl)) ?_)
              | fail) <;> (try simp only [Act.put, List.setIfInBounds_toArray, List.set_cons_zero, List.set_cons_succ]))
            go_ret
            exact Keep.intro ⟨by rw [hdec.out]; rfl, hX⟩
          have tzl : (d.vl == 0) = true := by simpa using zl
          have hdec := hide_ (show decide d.Right = decide (d.tx.Right) from (ref_0 k0 hfm.out hgd zi zv zl))
          clear hgd k0 zi zv zl
          go_wp2_with ((first
            | go_big_skip
            | (go_at_call 51; refine (refRight_any d.tx _).mono ?_; rintro e w2 ⟨rfl, hx⟩; replace f1 := f1.ext hx; replace hX := hX.trans hx; clear hx)
            | ((with_reducible refine at_field ?_); (try refine w_yes _ _ _ rfl rfl rfl ?_); refine w_mfield _ _ _ rfl rfl rfl (by omega) ?_)
            | ((with_reducible refine at_load ?_); (try refine w_yes _ _ _ rfl rfl rfl ?_); refine w_loadN Try.stTxM _ (tRw d.tx) rfl rfl rfl f1 rfl (mtx_at d u) ?_)
            | ((with_reducible refine at_load ?_); (try refine w_yes _ _ _ rfl rfl rfl ?_); refine w_fload _ rfl rfl rfl f1 rfl (agg_of (by kernel_rfl)) ?_)
            | fail) <;> (try simp only [Act.put, List.setIfInBounds_toArray, List.set_cons_zero, List.set_cons_succ]))
          go_ret
          exact Keep.intro ⟨by rw [hdec.out]; rfl, hX⟩
        by_cases k1 : d.kd = 1
        · have s0 : (d.kd == 0) = false := by simp [k1]
          have s1 : (d.kd == 1) = true := by simp [k1]
          have hgd := hgood.out
          by_cases zi : d.ix = 0
          rotate_left
          · have tzi : (d.ix == 0) = false := by simpa using zi
            have hdec := hide_ (show decide d.Right = false from decide_eq_false fun h => zi (h.ixNo (by omega)))
            clear hgd k0 k1 zi
            go_wp2_with ((first
              | go_big_skip
              | ((with_reducible refine at_field ?_); (try refine w_yes _ _ _ rfl rfl rfl ?_); refine w_mfield _ _ _ rfl rfl rfl (by omega) ?_)
              | ((with_reducible refine at_load ?_); (try refine w_yes _ _ _ rfl rfl rfl ?_); refine w_fload _ rfl rfl rfl f1 rfl (agg_of (by kernel_rfl)) ?_)
              | fail) <;> (try simp only [Act.put, List.setIfInBounds_toArray, List.set_cons_zero, List.set_cons_succ]))
            go_ret
            exact Keep.intro ⟨by rw [hdec.out]; rfl, hX⟩
          have tzi : (d.ix == 0) = true := by simpa using zi
          by_cases zv : d.vw = 0
          rotate_left
          · have tzv : (d.vw == 0) = false := by simpa using zv
            have hdec := hide_ (show decide d.Right = false from decide_eq_false fun h => zv (h.vwNo (by omega)))
            clear hgd k0 k1 zi zv
            go_wp2_with ((first
              | go_big_skip
              | ((with_reducible refine at_field ?_); (try refine w_yes _ _ _ rfl rfl rfl ?_); refine w_mfield _ _ _ rfl rfl rfl (by omega) ?_)
              | ((with_reducible refine at_load ?_); (try refine w_yes _ _ _ rfl rfl rfl ?_); refine w_fload _ rfl rfl rfl f1 rfl (agg_of (by kernel_rfl)) ?_)
              | fail) <;> (try simp only [Act.put, List.setIfInBounds_toArray, List.set_cons_zero, List.set_cons_succ]))
            go_ret
            exact Keep.intro ⟨by rw [hdec.out]; rfl, hX⟩
          have tzv : (d.vw == 0) = true := by simpa using zv
          by_cases zl : d.vl = 0
          rotate_left
          · have tzl : (d.vl == 0) = false := by simpa using zl
            have hdec := hide_ (show decide d.Right = false from decide_eq_false fun h => zl (h.vlNo (by omega)))
            clear hgd k0 k1 zi zv zl
            go_wp2_with ((first
              | go_big_skip
              | ((with_reducible refine at_field ?_); (try refine w_yes _ _ _ rfl rfl rfl ?_); refine w_mfield _ _ _ rfl rfl rfl (by omega) ?_)
              | ((with_reducible refine at_load ?_); (try refine w_yes _ _ _ rfl rfl rfl ?_); refine w_fload _ rfl rfl rfl f1 rfl (agg_of (by kernel_rfl)) ?_)
              | fail) <;> (try simp only [Act.put, List.setIfInBounds_toArray, List.set_cons_zero, List.set_cons_succ]))
            go_ret
            exact Keep.intro ⟨by rw [hdec.out]; rfl, hX⟩
          have tzl : (d.vl == 0) = true := by simpa using zl
          have hdec := hide_ (show decide d.Right = decide (d.bk.Right) from (ref_1 k1 hfm.out hgd zi zv zl))
          clear hgd k0 k1 zi zv zl
          go_wp2_with ((first
            | go_big_skip
            | (go_at_call 33; refine (refBRight_any (b := d.bk) (u := u) (hu.out.ext TxR.stays hX) hp.out).mono ?_; rintro e w2 ⟨rfl, hx⟩; replace f1 := f1.ext hx; replace hX := hX.trans hx; clear hx)
            | ((with_reducible refine at_field ?_); (try refine w_yes _ _ _ rfl rfl rfl ?_); refine w_mfield _ _ _ rfl rfl rfl (by omega) ?_)
            | ((with_reducible refine at_load ?_); (try refine w_yes _ _ _ rfl rfl rfl ?_); refine w_loadN Try.stBlkM _ (bRw d.bk u) rfl rfl rfl f1 rfl (mbk_at d u) ?_)
            | ((with_reducible refine at_load ?_); (try refine w_yes _ _ _ rfl rfl rfl ?_); refine w_fload _ rfl rfl rfl f1 rfl (agg_of (by kernel_rfl)) ?_)
            | fail) <;> (try simp only [Act.put, List.setIfInBounds_toArray, List.set_cons_zero, List.set_cons_succ]))
          go_ret
          exact Keep.intro ⟨by rw [hdec.out]; rfl, hX⟩
        by_cases k2 : d.kd = 2
        · have s0 : (d.kd == 0) = false := by simp [k2]
          have s1 : (d.kd == 1) = false := by simp [k2]
          have s2 : (d.kd == 2) = true := by simp [k2]
          have hgd := hgood.out
          by_cases zi : d.ix = 0
          rotate_left
          · have tzi : (d.ix == 0) = false := by simpa using zi
            have hdec := hide_ (show decide d.Right = false from decide_eq_false fun h => zi (h.ixNo (by omega)))
            clear hgd k0 k1 k2 zi
            go_wp2_with ((first
              | go_big_skip
              | ((with_reducible refine at_field ?_); (try refine w_yes _ _ _ rfl rfl rfl ?_); refine w_mfield _ _ _ rfl rfl rfl (by omega) ?_)
              | ((with_reducible refine at_load ?_); (try refine w_yes _ _ _ rfl rfl rfl ?_); refine w_fload _ rfl rfl rfl f1 rfl (agg_of (by kernel_rfl)) ?_)
              | fail) <;> (try simp only [Act.put, List.setIfInBounds_toArray, List.set_cons_zero, List.set_cons_succ]))
            go_ret
            exact Keep.intro ⟨by rw [hdec.out]; rfl, hX⟩
          have tzi : (d.ix == 0) = true := by simpa using zi
          by_cases zv : d.vw = 0
          rotate_left
          · have tzv : (d.vw == 0) = false := by simpa using zv
            have hdec := hide_ (show decide d.Right = false from decide_eq_false fun h => zv (h.vwNo (by omega)))
            clear hgd k0 k1 k2 zi zv
            go_wp2_with ((first
              | go_big_skip
              | ((with_reducible refine at_field ?_); (try refine w_yes _ _ _ rfl rfl rfl ?_); refine w_mfield _ _ _ rfl rfl rfl (by omega) ?_)
              | ((with_reducible refine at_load ?_); (try refine w_yes _ _ _ rfl rfl rfl ?_); refine w_fload _ rfl rfl rfl f1 rfl (agg_of (by kernel_rfl)) ?_)
              | fail) <;> (try simp only [Act.put, List.setIfInBounds_toArray, List.set_cons_zero, List.set_cons_succ]))
            go_ret
            exact Keep.intro ⟨by rw [hdec.out]; rfl, hX⟩
          have tzv : (d.vw == 0) = true := by simpa using zv
          have tnv := hide_ (rfl : decide (NV d.vl) = decide (NV d.vl))
          have hdec := hide_ (show decide d.Right = decide (NV d.vl) from (ref_2 k2 hfm.out hgd zi zv))
          clear hgd k0 k1 k2 zi zv
          go_wp2_with ((first
            | go_big_skip
            | (go_at_call 56; refine (name_any d.vl hvl.out _).mono ?_; rintro e w3 ⟨rfl, hx⟩; rw [tnv.out]; replace f1 := f1.ext hx; replace hX := hX.trans hx; clear hx)
            | ((with_reducible refine at_field ?_); (try refine w_yes _ _ _ rfl rfl rfl ?_); refine w_mfield _ _ _ rfl rfl rfl (by omega) ?_)
            | ((with_reducible refine at_load ?_); (try refine w_yes _ _ _ rfl rfl rfl ?_); refine w_fload _ rfl rfl rfl f1 rfl (agg_of (by kernel_rfl)) ?_)
            | fail) <;> (try simp only [Act.put, List.setIfInBounds_toArray, List.set_cons_zero, List.set_cons_succ]))
          go_ret
          exact Keep.intro ⟨by rw [hdec.out]; rfl, hX⟩
        by_cases k3 : d.kd = 3
        · have s0 : (d.kd == 0) = false := by simp [k3]
          have s1 : (d.kd == 1) = false := by simp [k3]
          have s2 : (d.kd == 2) = false := by simp [k3]
          have s3 : (d.kd == 3) = true := by simp [k3]
          have hgd := hgood.out
          by_cases qi : In 0 1000 d.ix
          rotate_left
          · have eqi := hide_ (decide_eq_false qi)
            rw [eqi.out]
            have hdec := hide_ (show decide d.Right = false from decide_eq_false fun h => qi (h.ixOk (by omega)))
            clear hgd k0 k1 k2 k3 qi
            go_wp2_with ((first
              | go_big_skip
              | ((with_reducible refine at_field ?_); (try refine w_yes _ _ _ rfl rfl rfl ?_); refine w_mfield _ _ _ rfl rfl rfl (by omega) ?_)
              | ((with_reducible refine at_load ?_); (try refine w_yes _ _ _ rfl rfl rfl ?_); refine w_fload _ rfl rfl rfl f1 rfl (agg_of (by kernel_rfl)) ?_)
              | fail) <;> (try simp only [Act.put, List.setIfInBounds_toArray, List.set_cons_zero, List.set_cons_succ]))
            go_ret
            exact Keep.intro ⟨by rw [hdec.out]; rfl, hX⟩
          have eqi := hide_ (decide_eq_true qi)
          rw [eqi.out]
          by_cases qv : In 0 1000 d.vw
          rotate_left
          · have eqv := hide_ (decide_eq_false qv)
            rw [eqv.out]
            have hdec := hide_ (show decide d.Right = false from decide_eq_false fun h => qv (h.vwOk (by omega)))
            clear hgd k0 k1 k2 k3 qi qv
            go_wp2_with ((first
              | go_big_skip
              | ((with_reducible refine at_field ?_); (try refine w_yes _ _ _ rfl rfl rfl ?_); refine w_mfield _ _ _ rfl rfl rfl (by omega) ?_)
              | ((with_reducible refine at_load ?_); (try refine w_yes _ _ _ rfl rfl rfl ?_); refine w_fload _ rfl rfl rfl f1 rfl (agg_of (by kernel_rfl)) ?_)
              | fail) <;> (try simp only [Act.put, List.setIfInBounds_toArray, List.set_cons_zero, List.set_cons_succ]))
            go_ret
            exact Keep.intro ⟨by rw [hdec.out]; rfl, hX⟩
          have eqv := hide_ (decide_eq_true qv)
          rw [eqv.out]
          by_cases qn : NV d.vl
          rotate_left
          · have tnv := hide_ (decide_eq_false qn)
            have hdec := hide_ (show decide d.Right = false from decide_eq_false fun h => qn (by have := h.vlOk (by omega); rcases this with this | this; omega; exact this))
            clear hgd k0 k1 k2 k3 qi qv qn
            go_wp2_with ((first
              | go_big_skip
              | (go_at_call 56; refine (name_any d.vl hvl.out _).mono ?_; rintro e w3 ⟨rfl, hx⟩; rw [tnv.out]; replace f1 := f1.ext hx; replace hX := hX.trans hx; clear hx)
              | ((with_reducible refine at_field ?_); (try refine w_yes _ _ _ rfl rfl rfl ?_); refine w_mfield _ _ _ rfl rfl rfl (by omega) ?_)
              | ((with_reducible refine at_load ?_); (try refine w_yes _ _ _ rfl rfl rfl ?_); refine w_fload _ rfl rfl rfl f1 rfl (agg_of (by kernel_rfl)) ?_)
              | fail) <;> (try simp only [Act.put, List.setIfInBounds_toArray, List.set_cons_zero, List.set_cons_succ]))
            go_ret
            exact Keep.intro ⟨by rw [hdec.out]; rfl, hX⟩
          have tnv := hide_ (decide_eq_true qn)
          by_cases qp : -1 ≤ d.pr
          rotate_left
          · have tp : decide (-1 ≤ d.pr) = false := by simp; omega
            have hdec := hide_ (show decide d.Right = false from decide_eq_false fun h => qp (h.prOk k3).1)
            clear hgd k0 k1 k2 k3 qi qv qn qp
            go_wp2_with ((first
              | go_big_skip
              | (go_at_call 56; refine (name_any d.vl hvl.out _).mono ?_; rintro e w3 ⟨rfl, hx⟩; rw [tnv.out]; replace f1 := f1.ext hx; replace hX := hX.trans hx; clear hx)
              | ((with_reducible refine at_field ?_); (try refine w_yes _ _ _ rfl rfl rfl ?_); refine w_mfield _ _ _ rfl rfl rfl (by omega) ?_)
              | ((with_reducible refine at_load ?_); (try refine w_yes _ _ _ rfl rfl rfl ?_); refine w_fload _ rfl rfl rfl f1 rfl (agg_of (by kernel_rfl)) ?_)
              | fail) <;> (try simp only [Act.put, List.setIfInBounds_toArray, List.set_cons_zero, List.set_cons_succ]))
            go_ret
            exact Keep.intro ⟨by rw [hdec.out]; rfl, hX⟩
          have tp : decide (-1 ≤ d.pr) = true := by simp; omega
          have hdec := hide_ (show decide d.Right = decide (d.pr < d.vw) from (ref_3 k3 hfm.out hgd qi qv qn qp))
          clear hgd k0 k1 k2 k3 qi qv qn qp
          go_wp2_with ((first
            | go_big_skip
            | (go_at_call 56; refine (name_any d.vl hvl.out _).mono ?_; rintro e w3 ⟨rfl, hx⟩; rw [tnv.out]; replace f1 := f1.ext hx; replace hX := hX.trans hx; clear hx)
            | ((with_reducible refine at_field ?_); (try refine w_yes _ _ _ rfl rfl rfl ?_); refine w_mfield _ _ _ rfl rfl rfl (by omega) ?_)
            | ((with_reducible refine at_load ?_); (try refine w_yes _ _ _ rfl rfl rfl ?_); refine w_fload _ rfl rfl rfl f1 rfl (agg_of (by kernel_rfl)) ?_)
            | fail) <;> (try simp only [Act.put, List.setIfInBounds_toArray, List.set_cons_zero, List.set_cons_succ]))
          go_ret
          exact Keep.intro ⟨by rw [hdec.out]; rfl, hX⟩
        by_cases k4 : d.kd = 4
        · have s0 : (d.kd == 0) = false := by simp [k4]
          have s1 : (d.kd == 1) = false := by simp [k4]
          have s2 : (d.kd == 2) = false := by simp [k4]
          have s3 : (d.kd == 3) = false := by simp [k4]
          have s4 : (d.kd == 4) = true := by simp [k4]
          have hgd := hgood.out
          by_cases qi : In 0 1000 d.ix
          rotate_left
          · have eqi := hide_ (decide_eq_false qi)
            rw [eqi.out]
            have hdec := hide_ (show decide d.Right = false from decide_eq_false fun h => qi (h.ixOk (by omega)))
            clear hgd k0 k1 k2 k3 k4 qi
            go_wp2_with ((first
              | go_big_skip
              | ((with_reducible refine at_field ?_); (try refine w_yes _ _ _ rfl rfl rfl ?_); refine w_mfield _ _ _ rfl rfl rfl (by omega) ?_)
              | ((with_reducible refine at_load ?_); (try refine w_yes _ _ _ rfl rfl rfl ?_); refine w_fload _ rfl rfl rfl f1 rfl (agg_of (by kernel_rfl)) ?_)
              | fail) <;> (try simp only [Act.put, List.setIfInBounds_toArray, List.set_cons_zero, List.set_cons_succ]))
            go_ret
            exact Keep.intro ⟨by rw [hdec.out]; rfl, hX⟩
          have eqi := hide_ (decide_eq_true qi)
          rw [eqi.out]
          by_cases qv : In 0 1000 d.vw
          rotate_left
          · have eqv := hide_ (decide_eq_false qv)
            rw [eqv.out]
            have hdec := hide_ (show decide d.Right = false from decide_eq_false fun h => qv (h.vwOk (by omega)))
            clear hgd k0 k1 k2 k3 k4 qi qv
            go_wp2_with ((first
              | go_big_skip
              | ((with_reducible refine at_field ?_); (try refine w_yes _ _ _ rfl rfl rfl ?_); refine w_mfield _ _ _ rfl rfl rfl (by omega) ?_)
              | ((with_reducible refine at_load ?_); (try refine w_yes _ _ _ rfl rfl rfl ?_); refine w_fload _ rfl rfl rfl f1 rfl (agg_of (by kernel_rfl)) ?_)
              | fail) <;> (try simp only [Act.put, List.setIfInBounds_toArray, List.set_cons_zero, List.set_cons_succ]))
            go_ret
            exact Keep.intro ⟨by rw [hdec.out]; rfl, hX⟩
          have eqv := hide_ (decide_eq_true qv)
          rw [eqv.out]
          by_cases qm : d.vl = -1
          · have tm : (d.vl == -1) = true := by simp [qm]
            have hdec := hide_ (show decide d.Right = true from (decide_eq_true ((ref_45 (.inl k4) hfm.out hgd qi qv).2 (.inl qm))))
            clear hgd k0 k1 k2 k3 k4 qi qv qm
            go_wp2_with ((first
              | go_big_skip
              | ((with_reducible refine at_field ?_); (try refine w_yes _ _ _ rfl rfl rfl ?_); refine w_mfield _ _ _ rfl rfl rfl (by omega) ?_)
              | ((with_reducible refine at_load ?_); (try refine w_yes _ _ _ rfl rfl rfl ?_); refine w_fload _ rfl rfl rfl f1 rfl (agg_of (by kernel_rfl)) ?_)
              | fail) <;> (try simp only [Act.put, List.setIfInBounds_toArray, List.set_cons_zero, List.set_cons_succ]))
            go_ret
            exact Keep.intro ⟨by rw [hdec.out]; rfl, hX⟩
          have tm : (d.vl == -1) = false := by simpa using qm
          have tnv := hide_ (rfl : decide (NV d.vl) = decide (NV d.vl))
          have hdec := hide_ (show decide d.Right = decide (NV d.vl) from (decide_eq_decide.2 ((ref_45 (.inl k4) hfm.out hgd qi qv).trans (or_iff_right qm))))
          clear hgd k0 k1 k2 k3 k4 qi qv qm
          go_wp2_with ((first
            | go_big_skip
            | (go_at_call 56; refine (name_any d.vl hvl.out _).mono ?_; rintro e w3 ⟨rfl, hx⟩; rw [tnv.out]; replace f1 := f1.ext hx; replace hX := hX.trans hx; clear hx)
            | ((with_reducible refine at_field ?_); (try refine w_yes _ _ _ rfl rfl rfl ?_); refine w_mfield _ _ _ rfl rfl rfl (by omega) ?_)
            | ((with_reducible refine at_load ?_); (try refine w_yes _ _ _ rfl rfl rfl ?_); refine w_fload _ rfl rfl rfl f1 rfl (agg_of (by kernel_rfl)) ?_)
            | fail) <;> (try simp only [Act.put, List.setIfInBounds_toArray, List.set_cons_zero, List.set_cons_succ]))
          go_ret
          exact Keep.intro ⟨by rw [hdec.out]; rfl, hX⟩
        by_cases k5 : d.kd = 5
        · have s0 : (d.kd == 0) = false := by simp [k5]
          have s1 : (d.kd == 1) = false := by simp [k5]
          have s2 : (d.kd == 2) = false := by simp [k5]
          have s3 : (d.kd == 3) = false := by simp [k5]
          have s4 : (d.kd == 4) = false := by simp [k5]
          have s5 : (d.kd == 5) = true := by simp [k5]
          have hgd := hgood.out
          by_cases qi : In 0 1000 d.ix
          rotate_left
          · have eqi := hide_ (decide_eq_false qi)
            rw [eqi.out]
            have hdec := hide_ (show decide d.Right = false from decide_eq_false fun h => qi (h.ixOk (by omega)))
            clear hgd k0 k1 k2 k3 k4 k5 qi
            go_wp2_with ((first
              | go_big_skip
              | ((with_reducible refine at_field ?_); (try refine w_yes _ _ _ rfl rfl rfl ?_); refine w_mfield _ _ _ rfl rfl rfl (by omega) ?_)
              | ((with_reducible refine at_load ?_); (try refine w_yes _ _ _ rfl rfl rfl ?_); refine w_fload _ rfl rfl rfl f1 rfl (agg_of (by kernel_rfl)) ?_)
              | fail) <;> (try simp only [Act.put, List.setIfInBounds_toArray, List.set_cons_zero, List.set_cons_succ]))
            go_ret
            exact Keep.intro ⟨by rw [hdec.out]; rfl, hX⟩
          have eqi := hide_ (decide_eq_true qi)
          rw [eqi.out]
          by_cases qv : In 0 1000 d.vw
          rotate_left
          · have eqv := hide_ (decide_eq_false qv)
            rw [eqv.out]
            have hdec := hide_ (show decide d.Right = false from decide_eq_false fun h => qv (h.vwOk (by omega)))
            clear hgd k0 k1 k2 k3 k4 k5 qi qv
            go_wp2_with ((first
              | go_big_skip
              | ((with_reducible refine at_field ?_); (try refine w_yes _ _ _ rfl rfl rfl ?_); refine w_mfield _ _ _ rfl rfl rfl (by omega) ?_)
              | ((with_reducible refine at_load ?_); (try refine w_yes _ _ _ rfl rfl rfl ?_); refine w_fload _ rfl rfl rfl f1 rfl (agg_of (by kernel_rfl)) ?_)
              | fail) <;> (try simp only [Act.put, List.setIfInBounds_toArray, List.set_cons_zero, List.set_cons_succ]))
            go_ret
            exact Keep.intro ⟨by rw [hdec.out]; rfl, hX⟩
          have eqv := hide_ (decide_eq_true qv)
          rw [eqv.out]
          by_cases qm : d.vl = -1
          · have tm : (d.vl == -1) = true := by simp [qm]
            have hdec := hide_ (show decide d.Right = true from (decide_eq_true ((ref_45 (.inr k5) hfm.out hgd qi qv).2 (.inl qm))))
            clear hgd k0 k1 k2 k3 k4 k5 qi qv qm
            go_wp2_with ((first
              | go_big_skip
              | ((with_reducible refine at_field ?_); (try refine w_yes _ _ _ rfl rfl rfl ?_); refine w_mfield _ _ _ rfl rfl rfl (by omega) ?_)
              | ((with_reducible refine at_load ?_); (try refine w_yes _ _ _ rfl rfl rfl ?_); refine w_fload _ rfl rfl rfl f1 rfl (agg_of (by kernel_rfl)) ?_)
              | fail) <;> (try simp only [Act.put, List.setIfInBounds_toArray, List.set_cons_zero, List.set_cons_succ]))
            go_ret
            exact Keep.intro ⟨by rw [hdec.out]; rfl, hX⟩
          have tm : (d.vl == -1) = false := by simpa using qm
          have tnv := hide_ (rfl : decide (NV d.vl) = decide (NV d.vl))
          have hdec := hide_ (show decide d.Right = decide (NV d.vl) from (decide_eq_decide.2 ((ref_45 (.inr k5) hfm.out hgd qi qv).trans (or_iff_right qm))))
          clear hgd k0 k1 k2 k3 k4 k5 qi qv qm
          go_wp2_with ((first
            | go_big_skip
            | (go_at_call 56; refine (name_any d.vl hvl.out _).mono ?_; rintro e w3 ⟨rfl, hx⟩; rw [tnv.out]; replace f1 := f1.ext hx; replace hX := hX.trans hx; clear hx)
            | ((with_reducible refine at_field ?_); (try refine w_yes _ _ _ rfl rfl rfl ?_); refine w_mfield _ _ _ rfl rfl rfl (by omega) ?_)
            | ((with_reducible refine at_load ?_); (try refine w_yes _ _ _ rfl rfl rfl ?_); refine w_fload _ rfl rfl rfl f1 rfl (agg_of (by kernel_rfl)) ?_)
            | fail) <;> (try simp only [Act.put, List.setIfInBounds_toArray, List.set_cons_zero, List.set_cons_succ]))
          go_ret
          exact Keep.intro ⟨by rw [hdec.out]; rfl, hX⟩
        by_cases k6 : d.kd = 6
        · have s0 : (d.kd == 0) = false := by simp [k6]
          have s1 : (d.kd == 1) = false := by simp [k6]
          have s2 : (d.kd == 2) = false := by simp [k6]
          have s3 : (d.kd == 3) = false := by simp [k6]
          have s4 : (d.kd == 4) = false := by simp [k6]
          have s5 : (d.kd == 5) = false := by simp [k6]
          have s6 : (d.kd == 6) = true := by simp [k6]
          have hgd := hgood.out
          by_cases qi : In 0 1000 d.ix
          rotate_left
          · have eqi := hide_ (decide_eq_false qi)
            rw [eqi.out]
            have hdec := hide_ (show decide d.Right = false from decide_eq_false fun h => qi (h.ixOk (by omega)))
            clear hgd k0 k1 k2 k3 k4 k5 k6 qi
            go_wp2_with ((first
              | go_big_skip
              | ((with_reducible refine at_field ?_); (try refine w_yes _ _ _ rfl rfl rfl ?_); refine w_mfield _ _ _ rfl rfl rfl (by omega) ?_)
              | ((with_reducible refine at_load ?_); (try refine w_yes _ _ _ rfl rfl rfl ?_); refine w_fload _ rfl rfl rfl f1 rfl (agg_of (by kernel_rfl)) ?_)
              | fail) <;> (try simp only [Act.put, List.setIfInBounds_toArray, List.set_cons_zero, List.set_cons_succ]))
            go_ret
            exact Keep.intro ⟨by rw [hdec.out]; rfl, hX⟩
          have eqi := hide_ (decide_eq_true qi)
          rw [eqi.out]
          by_cases qv : d.vw = 0
          rotate_left
          · have tqv : (d.vw == 0) = false := by simpa using qv
            have hdec := hide_ (show decide d.Right = false from decide_eq_false fun h => qv (h.vwNo (by omega)))
            clear hgd k0 k1 k2 k3 k4 k5 k6 qi qv
            go_wp2_with ((first
              | go_big_skip
              | ((with_reducible refine at_field ?_); (try refine w_yes _ _ _ rfl rfl rfl ?_); refine w_mfield _ _ _ rfl rfl rfl (by omega) ?_)
              | ((with_reducible refine at_load ?_); (try refine w_yes _ _ _ rfl rfl rfl ?_); refine w_fload _ rfl rfl rfl f1 rfl (agg_of (by kernel_rfl)) ?_)
              | fail) <;> (try simp only [Act.put, List.setIfInBounds_toArray, List.set_cons_zero, List.set_cons_succ]))
            go_ret
            exact Keep.intro ⟨by rw [hdec.out]; rfl, hX⟩
          have tqv : (d.vw == 0) = true := by simpa using qv
          have tnv := hide_ (rfl : decide (NV d.vl) = decide (NV d.vl))
          have hdec := hide_ (show decide d.Right = decide (NV d.vl) from (ref_6 k6 hfm.out hgd qi qv))
          clear hgd k0 k1 k2 k3 k4 k5 k6 qi qv
          go_wp2_with ((first
            | go_big_skip
            | (go_at_call 56; refine (name_any d.vl hvl.out _).mono ?_; rintro e w3 ⟨rfl, hx⟩; rw [tnv.out]; replace f1 := f1.ext hx; replace hX := hX.trans hx; clear hx)
            | ((with_reducible refine at_field ?_); (try refine w_yes _ _ _ rfl rfl rfl ?_); refine w_mfield _ _ _ rfl rfl rfl (by omega) ?_)
            | ((with_reducible refine at_load ?_); (try refine w_yes _ _ _ rfl rfl rfl ?_); refine w_fload _ rfl rfl rfl f1 rfl (agg_of (by kernel_rfl)) ?_)
            | fail) <;> (try simp only [Act.put, List.setIfInBounds_toArray, List.set_cons_zero, List.set_cons_succ]))
          go_ret
          exact Keep.intro ⟨by rw [hdec.out]; rfl, hX⟩
        have s0 : (d.kd == 0) = false := by simpa using k0
        have s1 : (d.kd == 1) = false := by simpa using k1
        have s2 : (d.kd == 2) = false := by simpa using k2
        have s3 : (d.kd == 3) = false := by simpa using k3
        have s4 : (d.kd == 4) = false := by simpa using k4
        have s5 : (d.kd == 5) = false := by simpa using k5
        have s6 : (d.kd == 6) = false := by simpa using k6
        have hdec := hide_ (show decide d.Right = false from decide_eq_false fun h => by have := h.kd6; unfold In at this; omega)
        clear k0 k1 k2 k3 k4 k5 k6
        go_wp2_with ((first
          | go_big_skip
          | ((with_reducible refine at_field ?_); (try refine w_yes _ _ _ rfl rfl rfl ?_); refine w_mfield _ _ _ rfl rfl rfl (by omega) ?_)
          | ((with_reducible refine at_load ?_); (try refine w_yes _ _ _ rfl rfl rfl ?_); refine w_fload _ rfl rfl rfl f1 rfl (agg_of (by kernel_rfl)) ?_)
          | fail) <;> (try simp only [Act.put, List.setIfInBounds_toArray, List.set_cons_zero, List.set_cons_succ]))
        go_ret
        exact Keep.intro ⟨by rw [hdec.out]; rfl, hX⟩

end Go.Proofs.Ytgbhbifdfcfamaa
