/- Bytes of the document's messages. -/
import Derived.Test.YtgbhbifdfcfamaaMg7
import Derived.Test.YtgbhbifdfcfamaaTagRef
namespace Go.Proofs.Ytgbhbifdfcfamaa
set_option maxRecDepth 100000
open Go.RowKit

theorem RKey_x (n : Int) (w : World) : Calls Try.prog 41 #[.int .i64 n] w fun e w' => e = .returned (.int .u64 ((keyB n).toNat : Int)) ∧ Ext w w' := by
  refine (RefKey_any n w).mono ?_
  rintro e w' ⟨rfl, rfl⟩; exact ⟨rfl, Ext.refl _⟩
theorem ROf_x (key : BitVec 64) (v : Value) (l : List Nat) (w : World) (hb : ∀ x ∈ l, x < 256) (h : Byt w v l) : Calls Try.prog 40 #[.int .u64 (key.toNat : Int), v] w fun e w' => e = .returned (.int .u64 ((markB key l).toNat : Int)) ∧ Ext w w' := by
  refine (RefOf_any key v l w hb h).mono ?_
  rintro e w' ⟨rfl, rfl⟩
  exact ⟨rfl, Ext.refl _⟩

set_option maxRecDepth 100000 in
set_option maxHeartbeats 3200000 in
theorem refMBytes_yes {w : World} {u : Value} {d : MsgD} (hright : d.Right) (hu : Recs 2 TxR w u d.bk.txs) (hvl : I64 d.vl) (hp : I64 d.bk.parent) : Calls Try.prog 19 #[.agg (mRow d u).toArray] w fun e w' => ∃ v', e = .returned (.tuple #[v', .int .i64 0]) ∧ OwnB w.heap.size w' v' d.bytes ∧ Ext w w' := by
  refine calls_keep ?_
  have hr := hide_ (decide_eq_true hright)
  have hbl := MsgD.body_len hright
  have hbig := hide_ (show (numL d.mark.toNat).length + d.body.length ≤ 140737488355328 from by have := numL_len10 d.mark_w64; omega)
  rw [MsgD.body_eq, List.length_append] at hbl
  have hbody := d.body_eq
  have hrdb := hide_ hright.rdb6
  have hsix := hide_ (show d.nums.length ≤ 64 from by simp [MsgD.nums])
  replace hu := hide_ hu
  replace hvl := hide_ hvl
  replace hp := hide_ hp
  by_cases hk : d.kd = 0
  · have t0 : (d.kd == 0) = true := by simpa using hk
    have t1 : (d.kd == 1) = false := by simp [hk]
    have hmore : d.more = d.tx.nums := if_pos hk
    have hbe := hide_ (show tE d.tx = 0 from if_pos (hright.txOk hk))
    have hbb := hide_ (show tB d.tx = nuL d.tx.nums from if_pos (hright.txOk hk))
    rw [hmore] at hbl hbody
    replace hbody := hide_ hbody
    have hbig6 := hide_ (show (nuL d.nums).length + (nuL d.tx.nums).length ≤ 140737488355328 from by omega)
    clear hbl hmore hk hright
    go_enter Try.func19, Try.ntmps19
    go_wp2_with ((first
      | ((with_reducible refine at_box ?_); refine w_box _ (mRow d u) rfl rfl rfl rfl ?_; intro g1 w1 hg1 hX f1)
      | (go_at_call 35; refine (refMRight_any (d := d) (u := u) (hu.out.ext TxR.stays hX) hvl.out hp.out).mono ?_; rintro e w2 ⟨rfl, hx⟩; rw [hr.out]; replace f1 := f1.ext hx; replace hX := hX.trans hx; clear hx)
      | (go_at_call 36; refine (refNums_yes hrdb.out hsix.out i1).mono ?_; rintro e w5 ⟨v5, rfl, o5, hx⟩; have hgB := hide_ f1.lt; have hWB := hide_ hX.size; have hXB := hx; replace f1 := f1.ext hx; replace hX := hX.trans hx; clear hx)
      | (go_at_call 37; refine (refTBytes_any d.tx _).mono ?_; rintro e w6 ⟨v6, rfl, o6, hx⟩; rw [hbe.out]; rw [hbb.out] at o6; have b6 := o6.byt; replace o5 := o5.ext hx; clear o6; replace f1 := f1.ext hx; replace hXB := hXB.trans hx; replace hX := hX.trans hx; clear hx)
      | (go_at_call 41; refine (RKey_x d.fm _).mono ?_; rintro e w4 ⟨rfl, hx⟩; replace o5 := o5.ext hx; replace f1 := f1.ext hx; replace hXB := hXB.trans hx; replace hX := hX.trans hx; clear hx)
      | (go_at_call 40; refine (ROf_x _ _ d.body _ d.body_lt o5.byt).mono ?_; rintro e w5 ⟨rfl, hx⟩; replace o5 := o5.ext hx; replace f1 := f1.ext hx; replace hXB := hXB.trans hx; replace hX := hX.trans hx; clear hx)
      | (go_at_call 39; refine (refNum_any d.mark.toNat _ d.mark_w64).mono ?_; rintro e w6 ⟨v6, rfl, o6, hx⟩; replace o6 := o6.mono hX.size; replace o5 := o5.ext hx; replace f1 := f1.ext hx; replace hXB := hXB.trans hx; replace hX := hX.trans hx; clear hx)
      | ((with_reducible refine at_lit ?_); refine w_new Try.elI (i64s d.nums) rfl rfl rfl (i64s_cells _) rfl (by omega) ?_; intro v1 w3 hx i1; replace i1 : Ints w3 v1 d.nums := Sl.of_own i1; replace f1 := f1.ext hx; replace hX := hX.trans hx; clear hx)
      | ((with_reducible refine at_load ?_); refine w_loadN Try.stMsg _ (mRow d u) rfl rfl rfl f1 rfl mself_at ?_)
      | ((with_reducible refine at_load ?_); refine w_loadN Try.stTxM _ (tRw d.tx) rfl rfl rfl f1 rfl (mtx_at d u) ?_)
      | ((with_reducible refine at_field ?_); (try refine w_yes _ _ _ rfl rfl rfl ?_); refine w_mfield _ _ _ rfl rfl rfl (by omega) ?_)
      | ((with_reducible refine at_load ?_); (try refine w_yes _ _ _ rfl rfl rfl ?_); refine w_fload _ rfl rfl rfl f1 rfl (agg_of (by kernel_rfl)) ?_)
      | ((with_reducible refine at_bi ?_); refine appb (.tmp 39) _ rfl rfl rfl rfl o5 b6 hbig6.out hXB.size ?_; intro v9 w9 o9 hb9 hg9; replace f1 := f1.below hb9 hgB.out; replace hX := hX.trans' (Below.mono hb9 hWB.out); replace hXB := hXB.trans' hb9; replace o5 := o9; rw [← hbody.out] at o5; clear hb9 hg9 o9)
      | ((with_reducible refine at_bi ?_); refine appb (.tmp 59) _ rfl rfl rfl rfl o6 o5.byt hbig.out hX.size ?_; intro v9 w9 o9 hb9 hg9; replace hX := hX.trans' hb9; replace o6 := o9; clear hb9 hg9 o9)
      | fail) <;> (try simp only [Act.put, List.setIfInBounds_toArray, List.set_cons_zero, List.set_cons_succ]))
    go_ret2
    exact Keep.intro ⟨v9, rfl, o6, hX⟩
  have t0 : (d.kd == 0) = false := by simpa using hk
  by_cases hk1 : d.kd = 1
  · have t1 : (d.kd == 1) = true := by simpa using hk1
    have hmore : d.more = d.bk.nums := (if_neg hk).trans (if_pos hk1)
    have hbr := hright.bkOk hk1
    have hbe := hide_ (show bE d.bk = 0 from if_pos hbr)
    have hbb := hide_ (show bB d.bk = nuL d.bk.nums from if_pos hbr)
    rw [hmore] at hbl hbody
    replace hbody := hide_ hbody
    have hbig6 := hide_ (show (nuL d.nums).length + (nuL d.bk.nums).length ≤ 140737488355328 from by omega)
    clear hbl hmore hk hk1 hright hbr
    go_enter Try.func19, Try.ntmps19
    go_wp2_with ((first
      | ((with_reducible refine at_box ?_); refine w_box _ (mRow d u) rfl rfl rfl rfl ?_; intro g1 w1 hg1 hX f1)
      | (go_at_call 35; refine (refMRight_any (d := d) (u := u) (hu.out.ext TxR.stays hX) hvl.out hp.out).mono ?_; rintro e w2 ⟨rfl, hx⟩; rw [hr.out]; replace f1 := f1.ext hx; replace hX := hX.trans hx; clear hx)
      | (go_at_call 36; refine (refNums_yes hrdb.out hsix.out i1).mono ?_; rintro e w5 ⟨v5, rfl, o5, hx⟩; have hgB := hide_ f1.lt; have hWB := hide_ hX.size; have hXB := hx; replace f1 := f1.ext hx; replace hX := hX.trans hx; clear hx)
      | (go_at_call 38; refine (refBBytes_any (b := d.bk) (u := u) (hu.out.ext TxR.stays hX) hp.out).mono ?_; rintro e w6 ⟨v6, rfl, o6, hx⟩; rw [hbe.out]; rw [hbb.out] at o6; have b6 := o6.byt; replace o5 := o5.ext hx; clear o6; replace f1 := f1.ext hx; replace hXB := hXB.trans hx; replace hX := hX.trans hx; clear hx)
      | (go_at_call 41; refine (RKey_x d.fm _).mono ?_; rintro e w4 ⟨rfl, hx⟩; replace o5 := o5.ext hx; replace f1 := f1.ext hx; replace hXB := hXB.trans hx; replace hX := hX.trans hx; clear hx)
      | (go_at_call 40; refine (ROf_x _ _ d.body _ d.body_lt o5.byt).mono ?_; rintro e w5 ⟨rfl, hx⟩; replace o5 := o5.ext hx; replace f1 := f1.ext hx; replace hXB := hXB.trans hx; replace hX := hX.trans hx; clear hx)
      | (go_at_call 39; refine (refNum_any d.mark.toNat _ d.mark_w64).mono ?_; rintro e w6 ⟨v6, rfl, o6, hx⟩; replace o6 := o6.mono hX.size; replace o5 := o5.ext hx; replace f1 := f1.ext hx; replace hXB := hXB.trans hx; replace hX := hX.trans hx; clear hx)
      | ((with_reducible refine at_lit ?_); refine w_new Try.elI (i64s d.nums) rfl rfl rfl (i64s_cells _) rfl (by omega) ?_; intro v1 w3 hx i1; replace i1 : Ints w3 v1 d.nums := Sl.of_own i1; replace f1 := f1.ext hx; replace hX := hX.trans hx; clear hx)
      | ((with_reducible refine at_load ?_); refine w_loadN Try.stMsg _ (mRow d u) rfl rfl rfl f1 rfl mself_at ?_)
      | ((with_reducible refine at_load ?_); refine w_loadN Try.stBlkM _ (bRw d.bk u) rfl rfl rfl f1 rfl (mbk_at d u) ?_)
      | ((with_reducible refine at_field ?_); (try refine w_yes _ _ _ rfl rfl rfl ?_); refine w_mfield _ _ _ rfl rfl rfl (by omega) ?_)
      | ((with_reducible refine at_load ?_); (try refine w_yes _ _ _ rfl rfl rfl ?_); refine w_fload _ rfl rfl rfl f1 rfl (agg_of (by kernel_rfl)) ?_)
      | ((with_reducible refine at_bi ?_); refine appb (.tmp 51) _ rfl rfl rfl rfl o5 b6 hbig6.out hXB.size ?_; intro v9 w9 o9 hb9 hg9; replace f1 := f1.below hb9 hgB.out; replace hX := hX.trans' (Below.mono hb9 hWB.out); replace hXB := hXB.trans' hb9; replace o5 := o9; rw [← hbody.out] at o5; clear hb9 hg9 o9)
      | ((with_reducible refine at_bi ?_); refine appb (.tmp 59) _ rfl rfl rfl rfl o6 o5.byt hbig.out hX.size ?_; intro v9 w9 o9 hb9 hg9; replace hX := hX.trans' hb9; replace o6 := o9; clear hb9 hg9 o9)
      | fail) <;> (try simp only [Act.put, List.setIfInBounds_toArray, List.set_cons_zero, List.set_cons_succ]))
    go_ret2
    exact Keep.intro ⟨v9, rfl, o6, hX⟩
  have t1 : (d.kd == 1) = false := by simpa using hk1
  have hmore : d.more = [] := (if_neg hk).trans (if_neg hk1)
  rw [hmore] at hbody
  replace hbody := hide_ (show d.body = nuL d.nums from by rw [hbody]; exact List.append_nil _)
  clear hbl hmore hk hk1 hright
  go_enter Try.func19, Try.ntmps19
  go_wp2_with ((first
    | ((with_reducible refine at_box ?_); refine w_box _ (mRow d u) rfl rfl rfl rfl ?_; intro g1 w1 hg1 hX f1)
    | (go_at_call 35; refine (refMRight_any (d := d) (u := u) (hu.out.ext TxR.stays hX) hvl.out hp.out).mono ?_; rintro e w2 ⟨rfl, hx⟩; rw [hr.out]; replace f1 := f1.ext hx; replace hX := hX.trans hx; clear hx)
    | (go_at_call 36; refine (refNums_yes hrdb.out hsix.out i1).mono ?_; rintro e w5 ⟨v5, rfl, o5, hx⟩; rw [← hbody.out] at o5; have hXB := hx; replace f1 := f1.ext hx; replace hX := hX.trans hx; clear hx)
    | (go_at_call 41; refine (RKey_x d.fm _).mono ?_; rintro e w4 ⟨rfl, hx⟩; replace o5 := o5.ext hx; replace f1 := f1.ext hx; replace hXB := hXB.trans hx; replace hX := hX.trans hx; clear hx)
    | (go_at_call 40; refine (ROf_x _ _ d.body _ d.body_lt o5.byt).mono ?_; rintro e w5 ⟨rfl, hx⟩; replace o5 := o5.ext hx; replace f1 := f1.ext hx; replace hXB := hXB.trans hx; replace hX := hX.trans hx; clear hx)
    | (go_at_call 39; refine (refNum_any d.mark.toNat _ d.mark_w64).mono ?_; rintro e w6 ⟨v6, rfl, o6, hx⟩; replace o6 := o6.mono hX.size; replace o5 := o5.ext hx; replace f1 := f1.ext hx; replace hXB := hXB.trans hx; replace hX := hX.trans hx; clear hx)
    | ((with_reducible refine at_lit ?_); refine w_new Try.elI (i64s d.nums) rfl rfl rfl (i64s_cells _) rfl (by omega) ?_; intro v1 w3 hx i1; replace i1 : Ints w3 v1 d.nums := Sl.of_own i1; replace f1 := f1.ext hx; replace hX := hX.trans hx; clear hx)
    | ((with_reducible refine at_load ?_); refine w_loadN Try.stMsg _ (mRow d u) rfl rfl rfl f1 rfl mself_at ?_)
    | ((with_reducible refine at_field ?_); (try refine w_yes _ _ _ rfl rfl rfl ?_); refine w_mfield _ _ _ rfl rfl rfl (by omega) ?_)
    | ((with_reducible refine at_load ?_); (try refine w_yes _ _ _ rfl rfl rfl ?_); refine w_fload _ rfl rfl rfl f1 rfl (agg_of (by kernel_rfl)) ?_)
    | ((with_reducible refine at_bi ?_); refine appb (.tmp 59) _ rfl rfl rfl rfl o6 o5.byt hbig.out hX.size ?_; intro v9 w9 o9 hb9 hg9; replace hX := hX.trans' hb9; replace o6 := o9; clear hb9 hg9 o9)
    | fail) <;> (try simp only [Act.put, List.setIfInBounds_toArray, List.set_cons_zero, List.set_cons_succ]))
  go_ret2
  exact Keep.intro ⟨v9, rfl, o6, hX⟩
set_option maxRecDepth 100000 in
set_option maxHeartbeats 3200000 in
theorem refMBytes_no {w : World} {u : Value} {d : MsgD} (hright : ¬ d.Right) (hu : Recs 2 TxR w u d.bk.txs) (hvl : I64 d.vl) (hp : I64 d.bk.parent) : Calls Try.prog 19 #[.agg (mRow d u).toArray] w fun e w' => e = .returned (.tuple #[.slice none 0 0, .int .i64 121]) ∧ Ext w w' := by
  refine calls_keep ?_
  have hr := hide_ (decide_eq_false hright)
  clear hright
  replace hu := hide_ hu
  replace hvl := hide_ hvl
  replace hp := hide_ hp
  go_enter Try.func19, Try.ntmps19
  go_wp2_with ((first
    | ((with_reducible refine at_box ?_); refine w_box _ (mRow d u) rfl rfl rfl rfl ?_; intro g1 w1 hg1 hX f1)
    | (go_at_call 35; refine (refMRight_any (d := d) (u := u) (hu.out.ext TxR.stays hX) hvl.out hp.out).mono ?_; rintro e w2 ⟨rfl, hx⟩; rw [hr.out]; replace f1 := f1.ext hx; replace hX := hX.trans hx; clear hx)
    | ((with_reducible refine at_load ?_); refine w_loadN Try.stMsg _ (mRow d u) rfl rfl rfl f1 rfl mself_at ?_)
    | fail) <;> (try simp only [Act.put, List.setIfInBounds_toArray, List.set_cons_zero, List.set_cons_succ]))
  go_ret2
  exact Keep.intro ⟨rfl, hX⟩
theorem refMBytes_any {w : World} {u : Value} {d : MsgD} (hu : Recs 2 TxR w u d.bk.txs) (hvl : I64 d.vl) (hp : I64 d.bk.parent) : Calls Try.prog 19 #[.agg (mRow d u).toArray] w fun e w' => ∃ v', e = .returned (.tuple #[v', .int .i64 (mE d : Nat)]) ∧ OwnB w.heap.size w' v' (mB d) ∧ Ext w w' := by
  by_cases h : d.Right
  · refine (refMBytes_yes h hu hvl hp).mono ?_
    rintro e w' ⟨v', rfl, o, hx⟩
    exact ⟨v', by rw [mE, if_pos h]; rfl, by rw [mB, if_pos h]; exact o, hx⟩
  · refine (refMBytes_no h hu hvl hp).mono ?_
    rintro e w' ⟨rfl, hx⟩
    exact ⟨_, by rw [mE, if_neg h]; rfl, by rw [mB, if_neg h]; exact OwnB.nil _ _, hx⟩
end Go.Proofs.Ytgbhbifdfcfamaa
