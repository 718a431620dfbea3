/- bodyOf and Bytes of package msg. -/
import Derived.Test.YtidhhmmjiflpjaaMg2
namespace Go.Proofs.Ytidhhmmjiflpjaa
set_option maxRecDepth 100000
open Go.RowKit

theorem Key_x (n : Int) (w : World) : Calls Try.prog 26 #[.int .i64 n] w fun e w' => e = .returned (.int .u64 ((keyB n).toNat : Int)) ∧ Ext w w' := by
  refine (Key_any n w).mono ?_
  rintro e w' ⟨rfl, rfl⟩; exact ⟨rfl, Ext.refl _⟩
theorem Of_x (key : BitVec 64) (v : Value) (l : List Nat) (w : World) (hb : ∀ x ∈ l, x < 256) (h : Parts w v [l]) : Calls Try.prog 25 #[.int .u64 (key.toNat : Int), v] w fun e w' => e = .returned (.int .u64 ((markB key l).toNat : Int)) ∧ Ext w w' := by
  refine (Of_any key v [l] w (fun x hx => by rw [List.mem_singleton] at hx; subst hx; exact hb) h).mono ?_
  rintro e w' ⟨rfl, rfl⟩
  exact ⟨by simp, Ext.refl _⟩

set_option maxRecDepth 100000 in
set_option maxHeartbeats 3200000 in
theorem bodyOf_any {w : World} {u : Value} {d : MsgD} (hr : d.Right) (hu : Recs 2 TxR w u d.bk.txs) (hp : I64 d.bk.parent) : Calls Try.prog 24 #[.agg (mRow d u).toArray] w fun e w' => ∃ v', e = .returned (.tuple #[v', .int .i64 0]) ∧ OwnB w.heap.size w' v' d.body ∧ Ext w w' := by
  refine calls_keep ?_
  replace hu := hide_ hu
  replace hp := hide_ hp
  have hrdb := hide_ hr.rdb6
  have hsix := hide_ (show d.nums.length ≤ 64 from by simp [MsgD.nums])
  have hbl := MsgD.body_len hr
  rw [MsgD.body_eq, List.length_append] at hbl
  have heq := hide_ d.body_eq
  by_cases hk : d.kd = 0
  · have t0 : (d.kd == 0) = true := by simpa using hk
    have hmore : d.more = d.tx.nums := if_pos hk
    have htx := hide_ (hr.txOk hk)
    rw [hmore] at hbl heq
    have hbig := hide_ (show (nuL d.nums).length + (nuL d.tx.nums).length ≤ 140737488355328 from by omega)
    clear hbl hmore hk hr
    go_enter Try.func24, Try.ntmps24
    go_wp2_with ((first
      | ((with_reducible refine at_box ?_); refine w_box _ (mRow d u) rfl rfl rfl rfl ?_; intro g1 w1 hg1 hX f1)
      | (go_at_call 39; refine (nums_any d u _).mono ?_; rintro e w2 ⟨rfl, hx⟩; replace f1 := f1.ext hx; replace hX := hX.trans hx; clear hx)
      | (go_at_call 49; refine (Nums_yes hrdb.out hsix.out i1).mono ?_; rintro e w5 ⟨v5, rfl, o5, hx⟩; replace o5 := o5.mono hX.size; replace f1 := f1.ext hx; replace hX := hX.trans hx; clear hx)
      | (go_at_call 50; refine (TBytes_yes htx.out _).mono ?_; rintro e w6 ⟨v6, rfl, o6, hx⟩; have b6 := o6.byt; replace o5 := o5.ext hx; clear o6; replace f1 := f1.ext hx; replace hX := hX.trans hx; clear hx)
      | ((with_reducible refine at_alloc ?_); refine w_agalloc Try.ag6 rfl rfl ?_; intro g4 w2 hg4 hx f4; have hne := hide_ (show ¬ g1 = g4 from (by have := f1.lt; omega)); replace hg4 := Nat.le_trans hX.size hg4; replace f1 := f1.ext hx; replace hX := hX.trans hx; clear hx)
      | ((with_reducible refine at_store ?_); refine w_agput Try.ag6 (us := i64s d.nums) _ _ rfl rfl rfl rfl rfl f4 rfl rfl (i64s_one _) ?_; intro w9 hm f9; replace f1 := f1.mod hm hne.out; replace f4 := f9; replace hX := hm.after hX (fun i e => e ▸ hg4); clear hm f9)
      | ((with_reducible refine at_cut ?_); refine w_aslice Try.underlying62 _ rfl rfl rfl f4 rfl (by decide) ?_; intro v1 i1)
      | ((with_reducible refine at_load ?_); refine w_loadN Try.stMsg _ (mRow d u) rfl rfl rfl f1 rfl mself_at ?_)
      | ((with_reducible refine at_load ?_); refine w_loadN Try.stTxM _ (tRw d.tx) rfl rfl rfl f1 rfl (mtx_at d u) ?_)
      | ((with_reducible refine at_field ?_); (try refine w_yes _ _ _ rfl rfl rfl ?_); refine w_mfield _ _ _ rfl rfl rfl (by omega) ?_)
      | ((with_reducible refine at_load ?_); (try refine w_yes _ _ _ rfl rfl rfl ?_); refine w_fload _ rfl rfl rfl f1 rfl (agg_of (by kernel_rfl)) ?_)
      | ((with_reducible refine at_bi ?_); refine appb _ _ rfl rfl rfl rfl o5 b6 hbig.out hX.size ?_; intro v9 w9 o9 hb9 hg9; replace hX := hX.trans' hb9; replace o5 := o9; clear hb9 hg9 o9)
      | fail) <;> (try simp only [Act.put, List.setIfInBounds_toArray, List.set_cons_zero, List.set_cons_succ]))
    go_ret2
    exact Keep.intro ⟨v9, rfl, by rw [heq.out]; exact o5, hX⟩
  have t0 : (d.kd == 0) = false := by simpa using hk
  by_cases hk1 : d.kd = 1
  · have t1 : (d.kd == 1) = true := by simpa using hk1
    have hmore : d.more = d.bk.nums := (if_neg hk).trans (if_pos hk1)
    have hbr := hr.bkOk hk1
    have hbe := hide_ (show bE d.bk = 0 from if_pos hbr)
    have hbb := hide_ (show bB d.bk = nuL d.bk.nums from if_pos hbr)
    rw [hmore] at hbl heq
    have hbig := hide_ (show (nuL d.nums).length + (nuL d.bk.nums).length ≤ 140737488355328 from by omega)
    clear hbl hmore hk hk1 hr hbr
    go_enter Try.func24, Try.ntmps24
    go_wp2_with ((first
      | ((with_reducible refine at_box ?_); refine w_box _ (mRow d u) rfl rfl rfl rfl ?_; intro g1 w1 hg1 hX f1)
      | (go_at_call 39; refine (nums_any d u _).mono ?_; rintro e w2 ⟨rfl, hx⟩; replace f1 := f1.ext hx; replace hX := hX.trans hx; clear hx)
      | (go_at_call 49; refine (Nums_yes hrdb.out hsix.out i1).mono ?_; rintro e w5 ⟨v5, rfl, o5, hx⟩; replace o5 := o5.mono hX.size; replace f1 := f1.ext hx; replace hX := hX.trans hx; clear hx)
      | (go_at_call 51; refine (BBytes_any (b := d.bk) (u := u) (hu.out.ext TxR.stays hX) hp.out).mono ?_; rintro e w6 ⟨v6, rfl, o6, hx⟩; rw [hbe.out]; rw [hbb.out] at o6; have b6 := o6.byt; replace o5 := o5.ext hx; clear o6; replace f1 := f1.ext hx; replace hX := hX.trans hx; clear hx)
      | ((with_reducible refine at_alloc ?_); refine w_agalloc Try.ag6 rfl rfl ?_; intro g4 w2 hg4 hx f4; have hne := hide_ (show ¬ g1 = g4 from (by have := f1.lt; omega)); replace hg4 := Nat.le_trans hX.size hg4; replace f1 := f1.ext hx; replace hX := hX.trans hx; clear hx)
      | ((with_reducible refine at_store ?_); refine w_agput Try.ag6 (us := i64s d.nums) _ _ rfl rfl rfl rfl rfl f4 rfl rfl (i64s_one _) ?_; intro w9 hm f9; replace f1 := f1.mod hm hne.out; replace f4 := f9; replace hX := hm.after hX (fun i e => e ▸ hg4); clear hm f9)
      | ((with_reducible refine at_cut ?_); refine w_aslice Try.underlying62 _ rfl rfl rfl f4 rfl (by decide) ?_; intro v1 i1)
      | ((with_reducible refine at_load ?_); refine w_loadN Try.stMsg _ (mRow d u) rfl rfl rfl f1 rfl mself_at ?_)
      | ((with_reducible refine at_load ?_); refine w_loadN Try.stBlkM _ (bRw d.bk u) rfl rfl rfl f1 rfl (mbk_at d u) ?_)
      | ((with_reducible refine at_field ?_); (try refine w_yes _ _ _ rfl rfl rfl ?_); refine w_mfield _ _ _ rfl rfl rfl (by omega) ?_)
      | ((with_reducible refine at_load ?_); (try refine w_yes _ _ _ rfl rfl rfl ?_); refine w_fload _ rfl rfl rfl f1 rfl (agg_of (by kernel_rfl)) ?_)
      | ((with_reducible refine at_bi ?_); refine appb _ _ rfl rfl rfl rfl o5 b6 hbig.out hX.size ?_; intro v9 w9 o9 hb9 hg9; replace hX := hX.trans' hb9; replace o5 := o9; clear hb9 hg9 o9)
      | fail) <;> (try simp only [Act.put, List.setIfInBounds_toArray, List.set_cons_zero, List.set_cons_succ]))
    go_ret2
    exact Keep.intro ⟨v9, rfl, by rw [heq.out]; exact o5, hX⟩
  have t1 : (d.kd == 1) = false := by simpa using hk1
  have hmore : d.more = [] := (if_neg hk).trans (if_neg hk1)
  rw [hmore] at hbl heq
  have hbig := hide_ (show (nuL d.nums).length + ([] : List Nat).length ≤ 140737488355328 from by have : ([] : List Nat).length = 0 := rfl; omega)
  clear hbl hmore hk hk1 hr
  have b6 := Byt.nil w
  go_enter Try.func24, Try.ntmps24
  go_wp2_with ((first
    | ((with_reducible refine at_box ?_); refine w_box _ (mRow d u) rfl rfl rfl rfl ?_; intro g1 w1 hg1 hX f1)
    | (go_at_call 39; refine (nums_any d u _).mono ?_; rintro e w2 ⟨rfl, hx⟩; replace f1 := f1.ext hx; replace hX := hX.trans hx; clear hx)
    | (go_at_call 49; refine (Nums_yes hrdb.out hsix.out i1).mono ?_; rintro e w5 ⟨v5, rfl, o5, hx⟩; replace o5 := o5.mono hX.size; replace f1 := f1.ext hx; replace hX := hX.trans hx; clear hx)
    | ((with_reducible refine at_alloc ?_); refine w_agalloc Try.ag6 rfl rfl ?_; intro g4 w2 hg4 hx f4; have hne := hide_ (show ¬ g1 = g4 from (by have := f1.lt; omega)); replace hg4 := Nat.le_trans hX.size hg4; replace f1 := f1.ext hx; replace hX := hX.trans hx; clear hx)
    | ((with_reducible refine at_store ?_); refine w_agput Try.ag6 (us := i64s d.nums) _ _ rfl rfl rfl rfl rfl f4 rfl rfl (i64s_one _) ?_; intro w9 hm f9; replace f1 := f1.mod hm hne.out; replace f4 := f9; replace hX := hm.after hX (fun i e => e ▸ hg4); clear hm f9)
    | ((with_reducible refine at_cut ?_); refine w_aslice Try.underlying62 _ rfl rfl rfl f4 rfl (by decide) ?_; intro v1 i1)
    | ((with_reducible refine at_load ?_); refine w_loadN Try.stMsg _ (mRow d u) rfl rfl rfl f1 rfl mself_at ?_)
    | ((with_reducible refine at_field ?_); (try refine w_yes _ _ _ rfl rfl rfl ?_); refine w_mfield _ _ _ rfl rfl rfl (by omega) ?_)
    | ((with_reducible refine at_load ?_); (try refine w_yes _ _ _ rfl rfl rfl ?_); refine w_fload _ rfl rfl rfl f1 rfl (agg_of (by kernel_rfl)) ?_)
    | ((with_reducible refine at_bi ?_); refine appb _ _ rfl rfl rfl rfl o5 (Byt.nil _) hbig.out hX.size ?_; intro v9 w9 o9 hb9 hg9; replace hX := hX.trans' hb9; replace o5 := o9; clear hb9 hg9 o9)
    | fail) <;> (try simp only [Act.put, List.setIfInBounds_toArray, List.set_cons_zero, List.set_cons_succ]))
  go_ret2
  exact Keep.intro ⟨v9, rfl, by rw [heq.out]; exact o5, hX⟩

set_option maxRecDepth 100000 in
set_option maxHeartbeats 3200000 in
theorem MBytes_yes {w : World} {u : Value} {d : MsgD} (hright : d.Right) (hu : Recs 2 TxR w u d.bk.txs) (hvl : I64 d.vl) (hp : I64 d.bk.parent) : Calls Try.prog 10 #[.agg (mRow d u).toArray] w fun e w' => ∃ v', e = .returned (.tuple #[v', .int .i64 0]) ∧ OwnB w.heap.size w' v' d.bytes ∧ Ext w w' := by
  refine calls_keep ?_
  have hr := hide_ (decide_eq_true hright)
  have hbl := MsgD.body_len hright
  have hbig := hide_ (show (numL d.mark.toNat).length + d.body.length ≤ 140737488355328 from by have := numL_len10 d.mark_w64; omega)
  clear hbl
  replace hright := hide_ hright
  replace hu := hide_ hu
  replace hvl := hide_ hvl
  replace hp := hide_ hp
  go_enter Try.func10, Try.ntmps10
  go_wp2_with ((first
    | ((with_reducible refine at_box ?_); refine w_box _ (mRow d u) rfl rfl rfl rfl ?_; intro g1 w1 hg1 hX f1)
    | (go_at_call 12; refine (MRight_any (d := d) (u := u) (hu.out.ext TxR.stays hX) hvl.out hp.out).mono ?_; rintro e w2 ⟨rfl, hx⟩; rw [hr.out]; replace f1 := f1.ext hx; replace hX := hX.trans hx; clear hx)
    | (go_at_call 24; refine (bodyOf_any (d := d) (u := u) hright.out (hu.out.ext TxR.stays hX) hp.out).mono ?_; rintro e w3 ⟨v3, rfl, o3, hx⟩; have b3 := o3.byt; clear o3; replace f1 := f1.ext hx; replace hX := hX.trans hx; clear hx)
    | (go_at_call 26; refine (Key_x d.fm _).mono ?_; rintro e w4 ⟨rfl, hx⟩; replace b3 := b3.ext hx; replace f1 := f1.ext hx; replace hX := hX.trans hx; clear hx)
    | (go_at_call 25; refine (Of_x _ v4 d.body _ d.body_lt p4).mono ?_; rintro e w5 ⟨rfl, hx⟩; replace b3 := b3.ext hx; replace f1 := f1.ext hx; replace hX := hX.trans hx; clear hx)
    | (go_at_call 27; refine (Num_any d.mark.toNat _ d.mark_w64).mono ?_; rintro e w6 ⟨v6, rfl, o6, hx⟩; replace o6 := o6.mono hX.size; replace b3 := b3.ext hx; replace f1 := f1.ext hx; replace hX := hX.trans hx; clear hx)
    | (refine w_parts [v3] [d.body] rfl rfl rfl rfl (byts1 b3) rfl (by omega) ?_; intro v4 w4 hx p4; replace b3 := b3.ext hx; replace f1 := f1.ext hx; replace hX := hX.trans hx; clear hx)
    | ((with_reducible refine at_load ?_); refine w_loadN Try.stMsg _ (mRow d u) rfl rfl rfl f1 rfl mself_at ?_)
    | ((with_reducible refine at_field ?_); (try refine w_yes _ _ _ rfl rfl rfl ?_); refine w_mfield _ _ _ rfl rfl rfl (by omega) ?_)
    | ((with_reducible refine at_load ?_); (try refine w_yes _ _ _ rfl rfl rfl ?_); refine w_fload _ rfl rfl rfl f1 rfl (agg_of (by kernel_rfl)) ?_)
    | ((with_reducible refine at_bi ?_); refine appb _ _ rfl rfl rfl rfl o6 b3 hbig.out hX.size ?_; intro v9 w9 o9 hb9 hg9; replace hX := hX.trans' hb9; replace o6 := o9; clear hb9 hg9 o9)
    | fail) <;> (try simp only [Act.put, List.setIfInBounds_toArray, List.set_cons_zero, List.set_cons_succ]))
  go_ret2
  exact Keep.intro ⟨v9, rfl, o6, hX⟩
set_option maxRecDepth 100000 in
set_option maxHeartbeats 3200000 in
theorem MBytes_no {w : World} {u : Value} {d : MsgD} (hright : ¬ d.Right) (hu : Recs 2 TxR w u d.bk.txs) (hvl : I64 d.vl) (hp : I64 d.bk.parent) : Calls Try.prog 10 #[.agg (mRow d u).toArray] w fun e w' => e = .returned (.tuple #[.slice none 0 0, .int .i64 121]) ∧ Ext w w' := by
  refine calls_keep ?_
  have hr := hide_ (decide_eq_false hright)
  clear hright
  replace hu := hide_ hu
  replace hvl := hide_ hvl
  replace hp := hide_ hp
  go_enter Try.func10, Try.ntmps10
  go_wp2_with ((first
    | ((with_reducible refine at_box ?_); refine w_box _ (mRow d u) rfl rfl rfl rfl ?_; intro g1 w1 hg1 hX f1)
    | (go_at_call 12; refine (MRight_any (d := d) (u := u) (hu.out.ext TxR.stays hX) hvl.out hp.out).mono ?_; rintro e w2 ⟨rfl, hx⟩; rw [hr.out]; replace f1 := f1.ext hx; replace hX := hX.trans hx; clear hx)
    | ((with_reducible refine at_load ?_); refine w_loadN Try.stMsg _ (mRow d u) rfl rfl rfl f1 rfl mself_at ?_)
    | fail) <;> (try simp only [Act.put, List.setIfInBounds_toArray, List.set_cons_zero, List.set_cons_succ]))
  go_ret2
  exact Keep.intro ⟨rfl, hX⟩
theorem MBytes_any {w : World} {u : Value} {d : MsgD} (hu : Recs 2 TxR w u d.bk.txs) (hvl : I64 d.vl) (hp : I64 d.bk.parent) : Calls Try.prog 10 #[.agg (mRow d u).toArray] w fun e w' => ∃ v', e = .returned (.tuple #[v', .int .i64 (mE d : Nat)]) ∧ OwnB w.heap.size w' v' (mB d) ∧ Ext w w' := by
  by_cases h : d.Right
  · refine (MBytes_yes h hu hvl hp).mono ?_
    rintro e w' ⟨v', rfl, o, hx⟩
    exact ⟨v', by rw [mE, if_pos h]; rfl, by rw [mB, if_pos h]; exact o, hx⟩
  · refine (MBytes_no h hu hvl hp).mono ?_
    rintro e w' ⟨rfl, hx⟩
    exact ⟨_, by rw [mE, if_neg h]; rfl, by rw [mB, if_neg h]; exact OwnB.nil _ _, hx⟩
end Go.Proofs.Ytidhhmmjiflpjaa
