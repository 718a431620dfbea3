/- The statement BlockBack: a block is written and read back, bytes read are written back; a copy is the same, and written over it leaves the block. No condition. -/
import Derived.Test.YtcjmcnepfnhnlaaBNames
import Derived.Test.YtcjmcnepfnhnlaaRowSt
namespace Go.Proofs.Ytcjmcnepfnhnlaa
open Go.RowKit Go.ChangeShapes Go.WideShapes Go.ChangeAt

/-- A block by value, its list as it reads. -/
def Sp.blk (b : BlkD) : Sp := .any (fun v w => ∃ u, v = .agg #[.int .i64 b.slot, .int .i64 b.miner, .int .i64 b.var, .int .i64 b.parent, u] ∧ Recs 2 TxR w u b.txs) fun _ _ _ ⟨u, h1, h2⟩ he => ⟨u, h1, h2.ext TxR.stays he⟩
theorem sameR {w : World} {u u2 : Value} {b : BlkD} (h1 : Recs 2 TxR w u b.txs) (h2 : Recs 2 TxR w u2 b.txs) : Calls Try.prog 18 #[.agg #[.int .i64 b.slot, .int .i64 b.miner, .int .i64 b.var, .int .i64 b.parent, u], .agg #[.int .i64 b.slot, .int .i64 b.miner, .int .i64 b.var, .int .i64 b.parent, u2]] w fun e w' => ∃ v', e = .returned v' ∧ Ext w w' ∧ Sp.p (.val (.bool true)) v' w' := by
  have h := BSame_any h1 h2
  rw [BlkD.same_self] at h; exact retR h
theorem copyR {w : World} {u : Value} {b : BlkD} (h1 : Recs 2 TxR w u b.txs) (hl : b.txs.length * 16 ≤ 140737488355328) : Calls Try.prog 24 #[.agg #[.int .i64 b.slot, .int .i64 b.miner, .int .i64 b.var, .int .i64 b.parent, u]] w fun e w' => ∃ v', e = .returned v' ∧ Ext w w' ∧ (Sp.blk b).p v' w' :=
  (BCopy_any h1 hl).mono fun _ _ ⟨u', he, ho, hx⟩ => ⟨_, he, hx, u', rfl, ho.recs⟩
theorem sameSpR {w : World} {v u : Value} {b : BlkD} (h1 : (Sp.blk b).p v w) (h2 : Recs 2 TxR w u b.txs) : Calls Try.prog 18 #[v, .agg #[.int .i64 b.slot, .int .i64 b.miner, .int .i64 b.var, .int .i64 b.parent, u]] w fun e w' => ∃ v', e = .returned v' ∧ Ext w w' ∧ Sp.p (.val (.bool true)) v' w' := by
  obtain ⟨u', rfl, h⟩ := h1
  exact sameR h h2
def TxD.inc (t : TxD) : TxD := ⟨t.id, t.fee + 1⟩
/-- The first k pay one more. -/
def bump (l : List TxD) (k : Nat) : List TxD := (l.take k).map TxD.inc ++ l.drop k
theorem bump_zero (l : List TxD) : bump l 0 = l := rfl
theorem bump_len (l : List TxD) (k : Nat) : (bump l k).length = l.length := by simp [bump]; omega
theorem bump_get {l : List TxD} {k : Nat} {d : TxD} (h : l[k]? = some d) : (bump l k)[k]? = some d := by
  have hk := (List.getElem?_eq_some_iff.1 h).1
  rw [bump, List.getElem?_append_right (by simp; omega), List.getElem?_drop, ← h]
  congr 1; simp; omega
theorem bump_next {l : List TxD} {k : Nat} {d : TxD} (h : l[k]? = some d) : (bump l k).set k d.inc = bump l (k + 1) := by
  have hk := (List.getElem?_eq_some_iff.1 h).1
  have hd : l.drop k = d :: l.drop (k + 1) := by
    rw [List.drop_eq_getElem_cons hk, (List.getElem?_eq_some_iff.1 h).2]
  rw [bump, bump, List.set_append_right _ _ (by simp; omega), hd, List.take_add_one, h]
  have e : k - (List.map TxD.inc (l.take k)).length = 0 := by simp; omega
  rw [e]
  simp
theorem bump_rows {l : List TxD} {k : Nat} {d : TxD} (h : l[k]? = some d) (hk : k < ((bump l k).map TxD.row).length) : ((bump l k).map TxD.row)[k] = d.row := by
  have h1 := bump_get h
  rw [List.getElem_map, (List.getElem?_eq_some_iff.1 h1).2]
theorem bump_set {l : List TxD} {k : Nat} {d : TxD} (h : l[k]? = some d) : ((bump l k).map TxD.row).set k (d.row.set 1 (.int .i64 (d.fee + 1))) = (bump l (k + 1)).map TxD.row := by
  rw [← bump_next h, List.map_set]; rfl
theorem bump_raw {l : List TxD} (h : ∀ t ∈ l, t.Right) (k : Nat) : ∀ t ∈ bump l k, t.Raw := by
  intro t ht
  rcases List.mem_append.1 ht with ht | ht
  · obtain ⟨s, hs, rfl⟩ := List.mem_map.1 ht
    obtain ⟨h1, h2, h3, h4⟩ := h s (List.mem_of_mem_take hs)
    exact ⟨by simp only [TxD.inc]; omega, by simp only [TxD.inc]; omega⟩
  · obtain ⟨h1, h2, h3, h4⟩ := h t (List.mem_of_mem_drop ht)
    exact ⟨by omega, by omega⟩
theorem bump_ne {l : List TxD} (h : 0 < l.length) : ¬ l = bump l l.length := fun e => by
  match l, h with
  | t :: l, _ =>
    simp only [bump, List.length_cons, List.take_succ_cons, List.map_cons, List.cons_append] at e
    injection e with e _
    have := congrArg TxD.fee e
    simp only [TxD.inc] at this; omega
theorem BlkD.Right.par_i64 {b : BlkD} (h : b.Right) : I64 b.parent := by
  rcases h.p with h1 | ⟨⟨h1, h2, h3, h4⟩, _⟩ <;> unfold I64 <;> omega

set_option maxRecDepth 100000 in
set_option maxHeartbeats 6400000 in
theorem blockBack_law (row : List Value) (b : BlkD) (vb : Value) (l : List Nat) (W : World) (hb : BlkR W row b) (hv : Byt W vb l) (hl256' : ∀ x ∈ l, x < 256) (hlen' : l.length ≤ 140737488351232) :
    Calls Try.prog 7 #[.agg row.toArray, vb] W fun e w' => e = .returned (.bool true) ∧ Ext W w' := by
  obtain ⟨⟨u, rfl, r1⟩, hraw⟩ := hb
  refine calls_keep ?_
  have hp := hide_ (show I64 b.parent from hraw.parent)
  replace r1 := hide_ r1
  have hl256 := hide_ hl256'
  have hlen := hide_ (show l.length ≤ 140737488355328 from by omega)
  have hbc := hide_ (show ([] : List Nat).length + l.length ≤ 140737488355328 from by simp; omega)
  clear hraw hl256' hlen'
  by_cases h1 : b.Right
  rotate_left
  · have E1 := hide_ (show bE b = 71 from if_neg h1)
    have E2 := hide_ (show bB b = [] from if_neg h1)
    have hdec := hide_ (decide_eq_false h1)
    clear h1
    cases hrl0 : rdBlk l with
    | none =>
      have hrl := hide_ hrl0
      clear hrl0
      go_enter Try.func7, Try.ntmps7
      go_wp2_with ((first
        | (go_at_call 18; refine (BSame_any (b := ⟨0, 0, 0, 0, []⟩) (b2 := ⟨0, 0, 0, 0, []⟩) (u := u11) (u2 := .slice none 0 0) r11 (Recs.nilT _)).mono ?_; rintro e w16 ⟨rfl, hx⟩; rw [BlkD.same_self]; replace hX := hX.trans hx; clear hx)
        | (go_at_call 10; refine (BRead_no hrl.out hl256.out hlen.out b79).mono ?_; rintro e w13 ⟨u11, rfl, hx, o11⟩; have r11 := o11.recs; clear b79 o11; replace hX := hX.trans hx; clear hx)
        | ((with_reducible refine at_load ?_); (try refine w_yes _ _ _ rfl rfl rfl ?_); refine w_aload Try.stBlk (.tmp 11) rfl rfl rfl f11 rfl ?_)
        | ((with_reducible refine at_box ?_); refine w_box _ [.int .i64 b.slot, .int .i64 b.miner, .int .i64 b.var, .int .i64 b.parent, u] rfl rfl rfl rfl ?_; intro g2 w1 hg2 hX f2)
        | (go_at_call 11; refine (alive_any _).mono ?_; rintro e w2 ⟨rfl, hx⟩; (try replace f2 := f2.ext hx); (try replace f7 := f7.ext hx); (try replace r7 := r7.ext TxR.stays hx); (try replace f9 := f9.ext hx); (try replace o9 := o9.ext hx); (try replace r11 := r11.ext TxR.stays hx); (try replace f11 := f11.ext hx); replace hX := hX.trans hx; clear hx)
        | (go_at_call 12; refine (BBytes_any (b := b) (r1.out.ext TxR.stays hX) hp.out).mono ?_; rintro e w3 ⟨v5, rfl, o5, hx⟩; rw [E1.out]; rw [E2.out] at o5; have b5 := o5.byt; clear o5; (try replace f2 := f2.ext hx); (try replace f7 := f7.ext hx); (try replace r7 := r7.ext TxR.stays hx); (try replace f9 := f9.ext hx); (try replace o9 := o9.ext hx); (try replace r11 := r11.ext TxR.stays hx); (try replace f11 := f11.ext hx); replace hX := hX.trans hx; clear hx)
        | (go_at_call 14; refine (BRight_any (b := b) (r1.out.ext TxR.stays hX) hp.out).mono ?_; rintro e w4 ⟨rfl, hx⟩; rw [hdec.out]; (try replace b5 := b5.ext hx); (try replace f2 := f2.ext hx); (try replace f7 := f7.ext hx); (try replace r7 := r7.ext TxR.stays hx); (try replace f9 := f9.ext hx); (try replace o9 := o9.ext hx); (try replace r11 := r11.ext TxR.stays hx); (try replace f11 := f11.ext hx); replace hX := hX.trans hx; clear hx)
        | ((with_reducible refine at_load ?_); (try refine w_yes _ _ _ rfl rfl rfl ?_); refine w_aload Try.stBlk (.tmp 2) rfl rfl rfl f2 rfl ?_)
        | ((with_reducible refine at_lit ?_); refine w_bempty (o := ⟨some 77, _, _, _, _, _⟩) rfl rfl ?_; intro v77 wn B hB1 hBl hxn o1; have hxb := hxn; clear hxn)
        | ((with_reducible refine at_bi ?_); refine appb (o := ⟨some 79, _, _, _, _, _⟩) _ _ rfl rfl rfl rfl o1 ((hv.ext hX).ext hxb) hbc.out hBl ?_; intro v79 wa o2 hba hga; rw [List.nil_append] at o2; have hx := hxb.trans' (hba.mono hB1); have b79 := o2.byt; clear o1 hba hga hxb hBl hB1 o2; replace hX := hX.trans hx; clear hx)
        | ((with_reducible refine at_alloc ?_); refine w_alloc (o := ⟨some 11, _, _, _, _, _⟩) Try.stBlk rfl rfl ?_; intro g11 w14 hg11 hx11 f11)
        | ((with_reducible refine at_store ?_); refine w_astore Try.stBlk (us := [.int .i64 0, .int .i64 0, .int .i64 0, .int .i64 0, u11]) _ _ rfl rfl rfl rfl rfl f11 rfl rfl (blk_one r11.one') ?_; intro w15 hm f11'; replace f11 := f11'; have hx := hm.after hx11 (fun i e => e ▸ hg11); replace r11 := r11.ext TxR.stays hx; replace hX := hX.trans hx; clear hm f11' hx11 hg11 hx)
        | ((with_reducible refine at_sbuild ?_); refine w_sbuild Try.stBlk [.int .i64 0, .int .i64 0, .int .i64 0, .int .i64 0, .slice none 0 0] rfl rfl rfl (by intro p hp; simp at hp) ?_)
        | fail) <;> (try simp only [Act.put, List.setIfInBounds_toArray, List.set_cons_zero, List.set_cons_succ]))
      go_ret
      exact Keep.intro ⟨rfl, hX⟩
    | some y =>
      have hrl := hide_ hrl0
      obtain ⟨hyr, hyl⟩ := (rdBlk_iff hl256.out y).1 hrl0
      have F1 := hide_ (show bE y = 0 from if_pos hyr)
      have F2 := hide_ (show bB y = l from by rw [bB, if_pos hyr, hyl])
      have hpy := hide_ hyr.par_i64
      clear hyr hyl
      clear hrl0
      go_enter Try.func7, Try.ntmps7
      go_wp2_with ((first
        | (go_at_call 12; refine (BBytes_any (b := y) r11 hpy.out).mono ?_; rintro e w17 ⟨v13, rfl, o13, hx⟩; rw [F1.out]; rw [F2.out] at o13; have b13 := o13.byt; clear o13; replace hX := hX.trans hx; clear hx)
        | (go_at_call 10; refine (BRead_yes hrl.out hl256.out hlen.out b79).mono ?_; rintro e w13 ⟨u11, rfl, hx, o11⟩; have r11 := o11.recs; clear b79 o11; replace hX := hX.trans hx; clear hx)
        | ((with_reducible refine at_load ?_); (try refine w_yes _ _ _ rfl rfl rfl ?_); refine w_aload Try.stBlk (.tmp 11) rfl rfl rfl f11 rfl ?_)
        | ((with_reducible refine at_box ?_); refine w_box _ [.int .i64 b.slot, .int .i64 b.miner, .int .i64 b.var, .int .i64 b.parent, u] rfl rfl rfl rfl ?_; intro g2 w1 hg2 hX f2)
        | (go_at_call 11; refine (alive_any _).mono ?_; rintro e w2 ⟨rfl, hx⟩; (try replace f2 := f2.ext hx); (try replace f7 := f7.ext hx); (try replace r7 := r7.ext TxR.stays hx); (try replace f9 := f9.ext hx); (try replace o9 := o9.ext hx); (try replace r11 := r11.ext TxR.stays hx); (try replace f11 := f11.ext hx); replace hX := hX.trans hx; clear hx)
        | (go_at_call 12; refine (BBytes_any (b := b) (r1.out.ext TxR.stays hX) hp.out).mono ?_; rintro e w3 ⟨v5, rfl, o5, hx⟩; rw [E1.out]; rw [E2.out] at o5; have b5 := o5.byt; clear o5; (try replace f2 := f2.ext hx); (try replace f7 := f7.ext hx); (try replace r7 := r7.ext TxR.stays hx); (try replace f9 := f9.ext hx); (try replace o9 := o9.ext hx); (try replace r11 := r11.ext TxR.stays hx); (try replace f11 := f11.ext hx); replace hX := hX.trans hx; clear hx)
        | (go_at_call 14; refine (BRight_any (b := b) (r1.out.ext TxR.stays hX) hp.out).mono ?_; rintro e w4 ⟨rfl, hx⟩; rw [hdec.out]; (try replace b5 := b5.ext hx); (try replace f2 := f2.ext hx); (try replace f7 := f7.ext hx); (try replace r7 := r7.ext TxR.stays hx); (try replace f9 := f9.ext hx); (try replace o9 := o9.ext hx); (try replace r11 := r11.ext TxR.stays hx); (try replace f11 := f11.ext hx); replace hX := hX.trans hx; clear hx)
        | ((with_reducible refine at_load ?_); (try refine w_yes _ _ _ rfl rfl rfl ?_); refine w_aload Try.stBlk (.tmp 2) rfl rfl rfl f2 rfl ?_)
        | ((with_reducible refine at_lit ?_); refine w_bempty (o := ⟨some 77, _, _, _, _, _⟩) rfl rfl ?_; intro v77 wn B hB1 hBl hxn o1; have hxb := hxn; clear hxn)
        | ((with_reducible refine at_bi ?_); refine appb (o := ⟨some 79, _, _, _, _, _⟩) _ _ rfl rfl rfl rfl o1 ((hv.ext hX).ext hxb) hbc.out hBl ?_; intro v79 wa o2 hba hga; rw [List.nil_append] at o2; have hx := hxb.trans' (hba.mono hB1); have b79 := o2.byt; clear o1 hba hga hxb hBl hB1 o2; replace hX := hX.trans hx; clear hx)
        | ((with_reducible refine at_alloc ?_); refine w_alloc (o := ⟨some 11, _, _, _, _, _⟩) Try.stBlk rfl rfl ?_; intro g11 w14 hg11 hx11 f11)
        | ((with_reducible refine at_store ?_); refine w_astore Try.stBlk (us := [.int .i64 y.slot, .int .i64 y.miner, .int .i64 y.var, .int .i64 y.parent, u11]) _ _ rfl rfl rfl rfl rfl f11 rfl rfl (blk_one r11.one') ?_; intro w15 hm f11'; replace f11 := f11'; have hx := hm.after hx11 (fun i e => e ▸ hg11); replace r11 := r11.ext TxR.stays hx; replace hX := hX.trans hx; clear hm f11' hx11 hg11 hx)
        | ((with_reducible refine at_conv ?_); (try refine w_yes _ _ _ rfl rfl rfl ?_); refine w_str _ rfl rfl (v := v13) rfl b13 ?_)
        | ((with_reducible refine at_conv ?_); (try refine w_yes _ _ _ rfl rfl rfl ?_); refine w_str _ rfl rfl (v := vb) rfl (hv.ext hX) ?_)
        | fail) <;> (try simp only [Act.put, List.setIfInBounds_toArray, List.set_cons_zero, List.set_cons_succ]))
      go_ret
      exact Keep.intro ⟨rfl, hX⟩
  have E1 := hide_ (show bE b = 0 from if_pos h1)
  have E2 := hide_ (show bB b = b.bytes from if_pos h1)
  have hdec := hide_ (decide_eq_true h1)
  have hrd := hide_ ((rdBlk_iff b.bytes_lt b).2 ⟨h1, rfl⟩)
  have h256 := hide_ b.bytes_lt
  have hbl := hide_ (show b.bytes.length ≤ 140737488355328 from by have := BlkD.bytes_len h1; omega)
  have hl16 := hide_ (show b.txs.length * 16 ≤ 140737488355328 from by have := h1.t.len; omega)
  have hr1 := hide_ h1.t.right
  have hl3 := h1.t.len
  clear h1
  go_enter Try.func7, Try.ntmps7
  go_wp2_with ((first
    | ((with_reducible refine at_box ?_); refine w_box _ [.int .i64 b.slot, .int .i64 b.miner, .int .i64 b.var, .int .i64 b.parent, u] rfl rfl rfl rfl ?_; intro g2 w1 hg2 hX f2)
    | (go_at_call 11; refine (alive_any _).mono ?_; rintro e w2 ⟨rfl, hx⟩; (try replace f2 := f2.ext hx); (try replace f7 := f7.ext hx); (try replace r7 := r7.ext TxR.stays hx); (try replace f9 := f9.ext hx); (try replace o9 := o9.ext hx); (try replace r11 := r11.ext TxR.stays hx); (try replace f11 := f11.ext hx); replace hX := hX.trans hx; clear hx)
    | (go_at_call 12; refine (BBytes_any (b := b) (r1.out.ext TxR.stays hX) hp.out).mono ?_; rintro e w3 ⟨v5, rfl, o5, hx⟩; rw [E1.out]; rw [E2.out] at o5; have b5 := o5.byt; clear o5; (try replace f2 := f2.ext hx); (try replace f7 := f7.ext hx); (try replace r7 := r7.ext TxR.stays hx); (try replace f9 := f9.ext hx); (try replace o9 := o9.ext hx); (try replace r11 := r11.ext TxR.stays hx); (try replace f11 := f11.ext hx); replace hX := hX.trans hx; clear hx)
    | (go_at_call 14; refine (BRight_any (b := b) (r1.out.ext TxR.stays hX) hp.out).mono ?_; rintro e w4 ⟨rfl, hx⟩; rw [hdec.out]; (try replace b5 := b5.ext hx); (try replace f2 := f2.ext hx); (try replace f7 := f7.ext hx); (try replace r7 := r7.ext TxR.stays hx); (try replace f9 := f9.ext hx); (try replace o9 := o9.ext hx); (try replace r11 := r11.ext TxR.stays hx); (try replace f11 := f11.ext hx); replace hX := hX.trans hx; clear hx)
    | (go_at_call 10; refine (BRead_yes hrd.out h256.out hbl.out b5).mono ?_; rintro e w5 ⟨u7, rfl, hx, o7⟩; have r7 := o7.recs; clear b5 o7; replace f2 := f2.ext hx; replace hX := hX.trans hx; clear hx)
    | ((with_reducible refine at_alloc ?_); refine w_alloc (o := ⟨some 7, _, _, _, _, _⟩) Try.stBlk rfl rfl ?_; intro g7 w6 hg7 hx7 f7)
    | ((with_reducible refine at_store ?_); refine w_astore Try.stBlk (us := [.int .i64 b.slot, .int .i64 b.miner, .int .i64 b.var, .int .i64 b.parent, u7]) _ _ rfl rfl rfl rfl rfl f7 rfl rfl (blk_one r7.one') ?_; intro w7 hm f7'; replace f7 := f7'; have hx := hm.after hx7 (fun i e => e ▸ hg7); replace r7 := r7.ext TxR.stays hx; replace f2 := f2.ext hx; replace hX := hX.trans hx; clear hm f7' hx7 hg7 hx)
    | ((with_reducible refine at_load ?_); (try refine w_yes _ _ _ rfl rfl rfl ?_); refine w_aload Try.stBlk (.tmp 2) rfl rfl rfl f2 rfl ?_)
    | fail) <;> (try simp only [Act.put, List.setIfInBounds_toArray, List.set_cons_zero, List.set_cons_succ]))
  refine wp_region_phx (by kernel_rfl) ?_; intro wd hxd; replace f2 := f2.ext hxd; replace f7 := f7.ext hxd; replace r7 := r7.ext TxR.stays hxd; replace hX := hX.trans hxd; have s1 := r1.out.ext TxR.stays hX
  refine Ph.rest 0 15 (by kernel_rfl) ?_
  refine LinL.step (s := (.val (.int .i64 0))) [(8, none)] rfl (by kernel_rfl) (op_out 8 (.int .i64 0) rfl (.inl rfl) rfl) ?_
  refine LinL.step (s := (.val (.bool false))) [(34, some 0)] rfl (by kernel_rfl) (op_runs rfl fun σ w' hx hg => ⟨(.bool false), by have h34 : σ.tmps.getD 34 undef = .int .i64 0 := hg.1; unfold Runs execOp; simp [Act.eval, h34, go_sem], rfl⟩) ?_
  refine LinL.step (s := (.val (.bool false))) [(35, some 0)] rfl (by kernel_rfl) (op_copy 35 0 (.val (.bool false)) rfl (.inl rfl) rfl) ?_
  refine LinL.step (s := (.val (.agg #[.int .i64 b.slot, .int .i64 b.miner, .int .i64 b.var, .int .i64 b.parent, u7]))) [(7, none), (36, some 0)] rfl (by kernel_rfl) (op_yes (reads := [(7, none)]) 2 36 0 false rfl rfl rfl (op_runs rfl fun σ w' hx hg => ⟨_, runs_aload (ρ := σ.eval) (w := w') Try.stBlk (.tmp 7) rfl hg.1 (f7.ext hx) rfl, rfl⟩)) ?_
  refine LinL.step (s := (.val (.agg #[.int .i64 b.slot, .int .i64 b.miner, .int .i64 b.var, .int .i64 b.parent, u]))) [(2, none), (36, some 1)] rfl (by kernel_rfl) (op_yes (reads := [(2, none)]) 2 36 1 false rfl rfl rfl (op_runs rfl fun σ w' hx hg => ⟨_, runs_aload (ρ := σ.eval) (w := w') Try.stBlk (.tmp 2) rfl hg.1 (f2.ext hx) rfl, rfl⟩)) ?_
  refine LinL.step (s := (.val (.bool true))) [(37, some 1), (38, some 0), (36, some 2)] rfl (by kernel_rfl) (op_yes (reads := [(37, some 1), (38, some 0)]) 2 36 2 false rfl rfl rfl (op_calls 18 #[(.tmp 37), (.tmp 38)] #[24, 24] (fun σ => #[.agg #[.int .i64 b.slot, .int .i64 b.miner, .int .i64 b.var, .int .i64 b.parent, u7], .agg #[.int .i64 b.slot, .int .i64 b.miner, .int .i64 b.var, .int .i64 b.parent, u]]) rfl rfl (fun _ _ => rfl) fun σ w' hx hg => ⟨by have h37 : σ.tmps.getD 37 undef = .agg #[.int .i64 b.slot, .int .i64 b.miner, .int .i64 b.var, .int .i64 b.parent, u7] := hg.1; have h38 : σ.tmps.getD 38 undef = .agg #[.int .i64 b.slot, .int .i64 b.miner, .int .i64 b.var, .int .i64 b.parent, u] := hg.2.1; simp only [List.map_toArray, List.map_cons, List.map_nil, Act.eval, h37, h38], sameR (b := b) (r7.ext TxR.stays hx) (s1.ext TxR.stays hx)⟩)) ?_
  refine LinL.step (s := (.val (.bool false))) [(39, some 0), (36, some 3)] rfl (by kernel_rfl) (op_yes (reads := [(39, some 0)]) 2 36 3 false rfl rfl rfl (op_runs rfl fun σ w' hx hg => ⟨(.bool false), by have h39 : σ.tmps.getD 39 undef = .bool true := hg.1; unfold Runs execOp; simp [Act.eval, h39, go_sem], rfl⟩)) ?_
  refine LinL.step (s := (.val (.bool false))) [(36, some 4), (40, some 0)] rfl (by kernel_rfl) (op_runs rfl fun σ w' hx hg => ⟨_, runs_pick_f (ρ := σ.eval) (w := w') (.tmp 36) (.const (.bool true)) (.tmp 40) rfl hg.1 hg.2.1, rfl⟩) ?_
  refine LinL.step (s := (.val (.bool false))) [(41, some 0)] rfl (by kernel_rfl) (op_copy 41 0 (.val (.bool false)) rfl (.inl rfl) rfl) ?_
  refine LinL.step (s := (.val (.agg #[.int .i64 b.slot, .int .i64 b.miner, .int .i64 b.var, .int .i64 b.parent, u]))) [(2, none), (42, some 0)] rfl (by kernel_rfl) (op_yes (reads := [(2, none)]) 8 42 0 false rfl rfl rfl (op_runs rfl fun σ w' hx hg => ⟨_, runs_aload (ρ := σ.eval) (w := w') Try.stBlk (.tmp 2) rfl hg.1 (f2.ext hx) rfl, rfl⟩)) ?_
  refine LinL.step (s := (Sp.blk b)) [(43, some 0), (42, some 1)] rfl (by kernel_rfl) (op_yes (reads := [(43, some 0)]) 8 42 1 false rfl rfl rfl (op_calls 24 #[(.tmp 43)] #[24] (fun σ => #[.agg #[.int .i64 b.slot, .int .i64 b.miner, .int .i64 b.var, .int .i64 b.parent, u]]) rfl rfl (fun _ _ => rfl) fun σ w' hx hg => ⟨by have h43 : σ.tmps.getD 43 undef = .agg #[.int .i64 b.slot, .int .i64 b.miner, .int .i64 b.var, .int .i64 b.parent, u] := hg.1; simp only [List.map_toArray, List.map_cons, List.map_nil, Act.eval, h43], copyR (b := b) (s1.ext TxR.stays hx) hl16.out⟩)) ?_
  refine LinL.step (s := (.val (.agg #[.int .i64 b.slot, .int .i64 b.miner, .int .i64 b.var, .int .i64 b.parent, u]))) [(2, none), (42, some 2)] rfl (by kernel_rfl) (op_yes (reads := [(2, none)]) 8 42 2 false rfl rfl rfl (op_runs rfl fun σ w' hx hg => ⟨_, runs_aload (ρ := σ.eval) (w := w') Try.stBlk (.tmp 2) rfl hg.1 (f2.ext hx) rfl, rfl⟩)) ?_
  refine LinL.step (s := (.val (.bool true))) [(44, some 1), (45, some 0), (42, some 3)] rfl (by kernel_rfl) (op_yes (reads := [(44, some 1), (45, some 0)]) 8 42 3 false rfl rfl rfl (op_calls 18 #[(.tmp 44), (.tmp 45)] #[24, 24] (fun σ => #[σ.tmps.getD 44 undef, .agg #[.int .i64 b.slot, .int .i64 b.miner, .int .i64 b.var, .int .i64 b.parent, u]]) rfl rfl (fun _ _ => rfl) fun σ w' hx hg => ⟨by have h45 : σ.tmps.getD 45 undef = .agg #[.int .i64 b.slot, .int .i64 b.miner, .int .i64 b.var, .int .i64 b.parent, u] := hg.2.1; simp only [List.map_toArray, List.map_cons, List.map_nil, Act.eval, h45], sameSpR (b := b) hg.1 (s1.ext TxR.stays hx)⟩)) ?_
  refine LinL.step (s := (.val (.bool false))) [(46, some 0), (42, some 4)] rfl (by kernel_rfl) (op_yes (reads := [(46, some 0)]) 8 42 4 false rfl rfl rfl (op_runs rfl fun σ w' hx hg => ⟨(.bool false), by have h46 : σ.tmps.getD 46 undef = .bool true := hg.1; unfold Runs execOp; simp [Act.eval, h46, go_sem], rfl⟩)) ?_
  refine LinL.step (s := (.val (.bool false))) [(42, some 5), (47, some 0)] rfl (by kernel_rfl) (op_runs rfl fun σ w' hx hg => ⟨_, runs_pick_f (ρ := σ.eval) (w := w') (.tmp 42) (.const (.bool true)) (.tmp 47) rfl hg.1 hg.2.1, rfl⟩) ?_
  intro wN hxN
  simp only [Fin', Sp.blk, List.reverse_cons, List.reverse_nil, List.nil_append, List.cons_append, List.drop_zero, List.take_succ_cons, List.take_zero]
  intro q44 hq44
  simp only [Act.put, List.setIfInBounds_toArray, List.set_cons_zero, List.set_cons_succ]
  replace f2 := f2.ext hxN; replace hX := hX.trans hxN
  clear hxd hxN s1 f7 r7 hq44
  have hbl9 := hide_ (show (b.txs.length : Int) = (b.txs.length : Int) from rfl)
  go_wp2_with ((first
    | (go_at_call 24; refine (BCopy_any (b := b) (r1.out.ext TxR.stays hX) hl16.out).mono ?_; rintro e w8 ⟨u9, rfl, o9, hx⟩; have n29 : ∀ k, u9.ownBlock = some k → ¬ g2 = k := (fun k hk e => by have h1 := o9.new k hk; have h2 := f2.lt; omega); replace o9 := o9.mono hX.size; replace f2 := f2.ext hx; replace hX := hX.trans hx; clear hx)
    | ((with_reducible refine at_alloc ?_); refine w_alloc (o := ⟨some 9, _, _, _, _, _⟩) Try.stBlk rfl rfl ?_; intro g9 w9 hg9 hx9 f9; have n99 : ∀ k, u9.ownBlock = some k → ¬ g9 = k := (fun k hk e => by have h1 := o9.lt hk; omega))
    | ((with_reducible refine at_store ?_); refine w_astore Try.stBlk (us := [.int .i64 b.slot, .int .i64 b.miner, .int .i64 b.var, .int .i64 b.parent, u9]) _ _ rfl rfl rfl rfl rfl f9 rfl rfl (blk_one o9.recs.one') ?_; intro w10 hm f9'; replace f9 := f9'; have hx := hm.after hx9 (fun i e => e ▸ hg9); replace o9 := o9.ext hx; replace f2 := f2.ext hx; replace hX := hX.trans hx; clear hm f9' hx9 hg9 hx)
    | ((with_reducible refine at_field ?_); (try refine w_yes _ _ _ rfl rfl rfl ?_); refine w_field Try.stBlk _ _ _ rfl rfl rfl (by omega) ?_)
    | ((with_reducible refine at_bi ?_); (try refine w_yes _ _ _ rfl rfl rfl ?_); refine w_rlen Try.elTx _ rfl rfl (v := u9) rfl o9.recs ?_; rw [hbl9.out])
    | ((with_reducible refine at_load ?_); (try refine w_yes _ _ _ rfl rfl rfl ?_); refine w_aload Try.stBlk (.tmp 2) rfl rfl rfl f2 rfl ?_)
    | ((with_reducible refine at_load ?_); (try refine w_yes _ _ _ rfl rfl rfl ?_); refine w_fload _ rfl rfl rfl f9 rfl (agg_of (by kernel_rfl)) ?_)
    | fail) <;> (try simp only [Act.put, List.setIfInBounds_toArray, List.set_cons_zero, List.set_cons_succ]))
  go_loopw [54] (fun i wr => ∃ k : Nat, i = .int .i64 k ∧ k ≤ b.txs.length ∧ Fs wr g2 [.int .i64 b.slot, .int .i64 b.miner, .int .i64 b.var, .int .i64 b.parent, u] ∧ Fs wr g9 [.int .i64 b.slot, .int .i64 b.miner, .int .i64 b.var, .int .i64 b.parent, u9] ∧ OwnT W.heap.size wr u9 (bump b.txs k) ∧ Ext W wr) (fun i _ => b.txs.length - (intOf i).toNat)
  case atStart => exact ⟨0, rfl, Nat.zero_le _, f2, f9, o9, hX⟩
  case round =>
    clear f2 f9 o9 hX hbl9
    obtain ⟨k, rfl, hk, f2, f9, o9, hX⟩ := hrel
    by_cases hge : b.txs.length ≤ k
    · obtain rfl : k = b.txs.length := by omega
      have t1 : decide (b.txs.length < b.txs.length) = false := by simp
      have hbl9 := hide_ (show ((bump b.txs b.txs.length).length : Int) = (b.txs.length : Int) from by rw [bump_len])
      clear hge hk
      by_cases hz : 0 < b.txs.length
      · have t2 : decide (0 < b.txs.length) = true := by simpa using hz
        have hns := hide_ (show b.same ⟨b.slot, b.miner, b.var, b.parent, bump b.txs b.txs.length⟩ = false from by
          cases hs : b.same ⟨b.slot, b.miner, b.var, b.parent, bump b.txs b.txs.length⟩ with
          | false => rfl
          | true => exact absurd (congrArg BlkD.txs (BlkD.same_iff.1 hs)) (bump_ne hz))
        clear hz
        cases hrl0 : rdBlk l with
        | none =>
          have hrl := hide_ hrl0
          clear hrl0
          go_wp2_with ((first
            | (go_at_call 18; refine (BSame_any (b := ⟨0, 0, 0, 0, []⟩) (b2 := ⟨0, 0, 0, 0, []⟩) (u := u11) (u2 := .slice none 0 0) r11 (Recs.nilT _)).mono ?_; rintro e w16 ⟨rfl, hx⟩; rw [BlkD.same_self]; replace hX := hX.trans hx; clear hx)
            | (go_at_call 10; refine (BRead_no hrl.out hl256.out hlen.out b79).mono ?_; rintro e w13 ⟨u11, rfl, hx, o11⟩; have r11 := o11.recs; clear b79 o11; replace hX := hX.trans hx; clear hx)
            | ((with_reducible refine at_load ?_); (try refine w_yes _ _ _ rfl rfl rfl ?_); refine w_aload Try.stBlk (.tmp 11) rfl rfl rfl f11 rfl ?_)
            | (go_at_call 18; refine (BSame_any (b := b) (b2 := ⟨b.slot, b.miner, b.var, b.parent, bump b.txs b.txs.length⟩) (u := u) (u2 := u9) (r1.out.ext TxR.stays hX) o9.recs).mono ?_; rintro e w12 ⟨rfl, hx⟩; rw [hns.out]; replace hX := hX.trans hx; clear hx)
            | ((with_reducible refine at_load ?_); (try refine w_yes _ _ _ rfl rfl rfl ?_); refine w_aload Try.stBlk (.tmp 2) rfl rfl rfl f2 rfl ?_)
            | ((with_reducible refine at_load ?_); (try refine w_yes _ _ _ rfl rfl rfl ?_); refine w_aload Try.stBlk (.tmp 9) rfl rfl rfl f9 rfl ?_)
            | ((with_reducible refine at_field ?_); (try refine w_yes _ _ _ rfl rfl rfl ?_); refine w_field Try.stBlk _ _ _ rfl rfl rfl (by omega) ?_)
            | ((with_reducible refine at_load ?_); (try refine w_yes _ _ _ rfl rfl rfl ?_); refine w_fload _ rfl rfl rfl f9 rfl (agg_of (by kernel_rfl)) ?_)
            | ((with_reducible refine at_bi ?_); (try refine w_yes _ _ _ rfl rfl rfl ?_); refine w_rlen Try.elTx _ rfl rfl (v := u9) rfl o9.recs ?_; rw [hbl9.out])
            | ((with_reducible refine at_lit ?_); refine w_bempty (o := ⟨some 77, _, _, _, _, _⟩) rfl rfl ?_; intro v77 wn B hB1 hBl hxn o1; have hxb := hxn; clear hxn)
            | ((with_reducible refine at_bi ?_); refine appb (o := ⟨some 79, _, _, _, _, _⟩) _ _ rfl rfl rfl rfl o1 ((hv.ext hX).ext hxb) hbc.out hBl ?_; intro v79 wa o2 hba hga; rw [List.nil_append] at o2; have hx := hxb.trans' (hba.mono hB1); have b79 := o2.byt; clear o1 hba hga hxb hBl hB1 o2; replace hX := hX.trans hx; clear hx)
            | ((with_reducible refine at_alloc ?_); refine w_alloc (o := ⟨some 11, _, _, _, _, _⟩) Try.stBlk rfl rfl ?_; intro g11 w14 hg11 hx11 f11)
            | ((with_reducible refine at_store ?_); refine w_astore Try.stBlk (us := [.int .i64 0, .int .i64 0, .int .i64 0, .int .i64 0, u11]) _ _ rfl rfl rfl rfl rfl f11 rfl rfl (blk_one r11.one') ?_; intro w15 hm f11'; replace f11 := f11'; have hx := hm.after hx11 (fun i e => e ▸ hg11); replace r11 := r11.ext TxR.stays hx; replace hX := hX.trans hx; clear hm f11' hx11 hg11 hx)
            | ((with_reducible refine at_sbuild ?_); refine w_sbuild Try.stBlk [.int .i64 0, .int .i64 0, .int .i64 0, .int .i64 0, .slice none 0 0] rfl rfl rfl (by intro p hp; simp at hp) ?_)
            | fail) <;> (try simp only [Act.put, List.setIfInBounds_toArray, List.set_cons_zero, List.set_cons_succ]))
          go_ret
          exact Keep.intro ⟨rfl, hX⟩
        | some y =>
          have hrl := hide_ hrl0
          obtain ⟨hyr, hyl⟩ := (rdBlk_iff hl256.out y).1 hrl0
          have F1 := hide_ (show bE y = 0 from if_pos hyr)
          have F2 := hide_ (show bB y = l from by rw [bB, if_pos hyr, hyl])
          have hpy := hide_ hyr.par_i64
          clear hyr hyl
          clear hrl0
          go_wp2_with ((first
            | (go_at_call 12; refine (BBytes_any (b := y) r11 hpy.out).mono ?_; rintro e w17 ⟨v13, rfl, o13, hx⟩; rw [F1.out]; rw [F2.out] at o13; have b13 := o13.byt; clear o13; replace hX := hX.trans hx; clear hx)
            | (go_at_call 10; refine (BRead_yes hrl.out hl256.out hlen.out b79).mono ?_; rintro e w13 ⟨u11, rfl, hx, o11⟩; have r11 := o11.recs; clear b79 o11; replace hX := hX.trans hx; clear hx)
            | ((with_reducible refine at_load ?_); (try refine w_yes _ _ _ rfl rfl rfl ?_); refine w_aload Try.stBlk (.tmp 11) rfl rfl rfl f11 rfl ?_)
            | (go_at_call 18; refine (BSame_any (b := b) (b2 := ⟨b.slot, b.miner, b.var, b.parent, bump b.txs b.txs.length⟩) (u := u) (u2 := u9) (r1.out.ext TxR.stays hX) o9.recs).mono ?_; rintro e w12 ⟨rfl, hx⟩; rw [hns.out]; replace hX := hX.trans hx; clear hx)
            | ((with_reducible refine at_load ?_); (try refine w_yes _ _ _ rfl rfl rfl ?_); refine w_aload Try.stBlk (.tmp 2) rfl rfl rfl f2 rfl ?_)
            | ((with_reducible refine at_load ?_); (try refine w_yes _ _ _ rfl rfl rfl ?_); refine w_aload Try.stBlk (.tmp 9) rfl rfl rfl f9 rfl ?_)
            | ((with_reducible refine at_field ?_); (try refine w_yes _ _ _ rfl rfl rfl ?_); refine w_field Try.stBlk _ _ _ rfl rfl rfl (by omega) ?_)
            | ((with_reducible refine at_load ?_); (try refine w_yes _ _ _ rfl rfl rfl ?_); refine w_fload _ rfl rfl rfl f9 rfl (agg_of (by kernel_rfl)) ?_)
            | ((with_reducible refine at_bi ?_); (try refine w_yes _ _ _ rfl rfl rfl ?_); refine w_rlen Try.elTx _ rfl rfl (v := u9) rfl o9.recs ?_; rw [hbl9.out])
            | ((with_reducible refine at_lit ?_); refine w_bempty (o := ⟨some 77, _, _, _, _, _⟩) rfl rfl ?_; intro v77 wn B hB1 hBl hxn o1; have hxb := hxn; clear hxn)
            | ((with_reducible refine at_bi ?_); refine appb (o := ⟨some 79, _, _, _, _, _⟩) _ _ rfl rfl rfl rfl o1 ((hv.ext hX).ext hxb) hbc.out hBl ?_; intro v79 wa o2 hba hga; rw [List.nil_append] at o2; have hx := hxb.trans' (hba.mono hB1); have b79 := o2.byt; clear o1 hba hga hxb hBl hB1 o2; replace hX := hX.trans hx; clear hx)
            | ((with_reducible refine at_alloc ?_); refine w_alloc (o := ⟨some 11, _, _, _, _, _⟩) Try.stBlk rfl rfl ?_; intro g11 w14 hg11 hx11 f11)
            | ((with_reducible refine at_store ?_); refine w_astore Try.stBlk (us := [.int .i64 y.slot, .int .i64 y.miner, .int .i64 y.var, .int .i64 y.parent, u11]) _ _ rfl rfl rfl rfl rfl f11 rfl rfl (blk_one r11.one') ?_; intro w15 hm f11'; replace f11 := f11'; have hx := hm.after hx11 (fun i e => e ▸ hg11); replace r11 := r11.ext TxR.stays hx; replace hX := hX.trans hx; clear hm f11' hx11 hg11 hx)
            | ((with_reducible refine at_conv ?_); (try refine w_yes _ _ _ rfl rfl rfl ?_); refine w_str _ rfl rfl (v := v13) rfl b13 ?_)
            | ((with_reducible refine at_conv ?_); (try refine w_yes _ _ _ rfl rfl rfl ?_); refine w_str _ rfl rfl (v := vb) rfl (hv.ext hX) ?_)
            | fail) <;> (try simp only [Act.put, List.setIfInBounds_toArray, List.set_cons_zero, List.set_cons_succ]))
          go_ret
          exact Keep.intro ⟨rfl, hX⟩
      · have t2 : decide (0 < b.txs.length) = false := by simpa using hz
        clear hz
        cases hrl0 : rdBlk l with
        | none =>
          have hrl := hide_ hrl0
          clear hrl0
          go_wp2_with ((first
            | (go_at_call 18; refine (BSame_any (b := ⟨0, 0, 0, 0, []⟩) (b2 := ⟨0, 0, 0, 0, []⟩) (u := u11) (u2 := .slice none 0 0) r11 (Recs.nilT _)).mono ?_; rintro e w16 ⟨rfl, hx⟩; rw [BlkD.same_self]; replace hX := hX.trans hx; clear hx)
            | (go_at_call 10; refine (BRead_no hrl.out hl256.out hlen.out b79).mono ?_; rintro e w13 ⟨u11, rfl, hx, o11⟩; have r11 := o11.recs; clear b79 o11; replace hX := hX.trans hx; clear hx)
            | ((with_reducible refine at_load ?_); (try refine w_yes _ _ _ rfl rfl rfl ?_); refine w_aload Try.stBlk (.tmp 11) rfl rfl rfl f11 rfl ?_)
            | ((with_reducible refine at_field ?_); (try refine w_yes _ _ _ rfl rfl rfl ?_); refine w_field Try.stBlk _ _ _ rfl rfl rfl (by omega) ?_)
            | ((with_reducible refine at_load ?_); (try refine w_yes _ _ _ rfl rfl rfl ?_); refine w_fload _ rfl rfl rfl f9 rfl (agg_of (by kernel_rfl)) ?_)
            | ((with_reducible refine at_bi ?_); (try refine w_yes _ _ _ rfl rfl rfl ?_); refine w_rlen Try.elTx _ rfl rfl (v := u9) rfl o9.recs ?_; rw [hbl9.out])
            | ((with_reducible refine at_lit ?_); refine w_bempty (o := ⟨some 77, _, _, _, _, _⟩) rfl rfl ?_; intro v77 wn B hB1 hBl hxn o1; have hxb := hxn; clear hxn)
            | ((with_reducible refine at_bi ?_); refine appb (o := ⟨some 79, _, _, _, _, _⟩) _ _ rfl rfl rfl rfl o1 ((hv.ext hX).ext hxb) hbc.out hBl ?_; intro v79 wa o2 hba hga; rw [List.nil_append] at o2; have hx := hxb.trans' (hba.mono hB1); have b79 := o2.byt; clear o1 hba hga hxb hBl hB1 o2; replace hX := hX.trans hx; clear hx)
            | ((with_reducible refine at_alloc ?_); refine w_alloc (o := ⟨some 11, _, _, _, _, _⟩) Try.stBlk rfl rfl ?_; intro g11 w14 hg11 hx11 f11)
            | ((with_reducible refine at_store ?_); refine w_astore Try.stBlk (us := [.int .i64 0, .int .i64 0, .int .i64 0, .int .i64 0, u11]) _ _ rfl rfl rfl rfl rfl f11 rfl rfl (blk_one r11.one') ?_; intro w15 hm f11'; replace f11 := f11'; have hx := hm.after hx11 (fun i e => e ▸ hg11); replace r11 := r11.ext TxR.stays hx; replace hX := hX.trans hx; clear hm f11' hx11 hg11 hx)
            | ((with_reducible refine at_sbuild ?_); refine w_sbuild Try.stBlk [.int .i64 0, .int .i64 0, .int .i64 0, .int .i64 0, .slice none 0 0] rfl rfl rfl (by intro p hp; simp at hp) ?_)
            | fail) <;> (try simp only [Act.put, List.setIfInBounds_toArray, List.set_cons_zero, List.set_cons_succ]))
          go_ret
          exact Keep.intro ⟨rfl, hX⟩
        | some y =>
          have hrl := hide_ hrl0
          obtain ⟨hyr, hyl⟩ := (rdBlk_iff hl256.out y).1 hrl0
          have F1 := hide_ (show bE y = 0 from if_pos hyr)
          have F2 := hide_ (show bB y = l from by rw [bB, if_pos hyr, hyl])
          have hpy := hide_ hyr.par_i64
          clear hyr hyl
          clear hrl0
          go_wp2_with ((first
            | (go_at_call 12; refine (BBytes_any (b := y) r11 hpy.out).mono ?_; rintro e w17 ⟨v13, rfl, o13, hx⟩; rw [F1.out]; rw [F2.out] at o13; have b13 := o13.byt; clear o13; replace hX := hX.trans hx; clear hx)
            | (go_at_call 10; refine (BRead_yes hrl.out hl256.out hlen.out b79).mono ?_; rintro e w13 ⟨u11, rfl, hx, o11⟩; have r11 := o11.recs; clear b79 o11; replace hX := hX.trans hx; clear hx)
            | ((with_reducible refine at_load ?_); (try refine w_yes _ _ _ rfl rfl rfl ?_); refine w_aload Try.stBlk (.tmp 11) rfl rfl rfl f11 rfl ?_)
            | ((with_reducible refine at_field ?_); (try refine w_yes _ _ _ rfl rfl rfl ?_); refine w_field Try.stBlk _ _ _ rfl rfl rfl (by omega) ?_)
            | ((with_reducible refine at_load ?_); (try refine w_yes _ _ _ rfl rfl rfl ?_); refine w_fload _ rfl rfl rfl f9 rfl (agg_of (by kernel_rfl)) ?_)
            | ((with_reducible refine at_bi ?_); (try refine w_yes _ _ _ rfl rfl rfl ?_); refine w_rlen Try.elTx _ rfl rfl (v := u9) rfl o9.recs ?_; rw [hbl9.out])
            | ((with_reducible refine at_lit ?_); refine w_bempty (o := ⟨some 77, _, _, _, _, _⟩) rfl rfl ?_; intro v77 wn B hB1 hBl hxn o1; have hxb := hxn; clear hxn)
            | ((with_reducible refine at_bi ?_); refine appb (o := ⟨some 79, _, _, _, _, _⟩) _ _ rfl rfl rfl rfl o1 ((hv.ext hX).ext hxb) hbc.out hBl ?_; intro v79 wa o2 hba hga; rw [List.nil_append] at o2; have hx := hxb.trans' (hba.mono hB1); have b79 := o2.byt; clear o1 hba hga hxb hBl hB1 o2; replace hX := hX.trans hx; clear hx)
            | ((with_reducible refine at_alloc ?_); refine w_alloc (o := ⟨some 11, _, _, _, _, _⟩) Try.stBlk rfl rfl ?_; intro g11 w14 hg11 hx11 f11)
            | ((with_reducible refine at_store ?_); refine w_astore Try.stBlk (us := [.int .i64 y.slot, .int .i64 y.miner, .int .i64 y.var, .int .i64 y.parent, u11]) _ _ rfl rfl rfl rfl rfl f11 rfl rfl (blk_one r11.one') ?_; intro w15 hm f11'; replace f11 := f11'; have hx := hm.after hx11 (fun i e => e ▸ hg11); replace r11 := r11.ext TxR.stays hx; replace hX := hX.trans hx; clear hm f11' hx11 hg11 hx)
            | ((with_reducible refine at_conv ?_); (try refine w_yes _ _ _ rfl rfl rfl ?_); refine w_str _ rfl rfl (v := v13) rfl b13 ?_)
            | ((with_reducible refine at_conv ?_); (try refine w_yes _ _ _ rfl rfl rfl ?_); refine w_str _ rfl rfl (v := vb) rfl (hv.ext hX) ?_)
            | fail) <;> (try simp only [Act.put, List.setIfInBounds_toArray, List.set_cons_zero, List.set_cons_succ]))
          go_ret
          exact Keep.intro ⟨rfl, hX⟩
    have hlt : k < b.txs.length := by omega
    have t1 : decide (k < b.txs.length) = true := by simpa using hlt
    obtain ⟨d, hd⟩ : ∃ d, b.txs[k]? = some d := ⟨_, List.getElem?_eq_getElem hlt⟩
    have hkr := hide_ (show k < ((bump b.txs k).map TxD.row).length from by rw [List.length_map, bump_len]; exact hlt)
    have hrk := hide_ (bump_rows hd hkr.out)
    have hset := hide_ (show ((bump b.txs k).map TxD.row).set k (((bump b.txs k).map TxD.row)[k]'hkr.out |>.set 1 (.int .i64 (d.fee + 1))) = (bump b.txs (k + 1)).map TxD.row from by rw [hrk.out]; exact bump_set hd)
    have hraw2 := hide_ (bump_raw hr1.out (k + 1))
    have hfee := (hr1.out d (List.mem_of_getElem? hd)).2.2
    clear hge hd
    go_wp2_with ((first
      | ((with_reducible refine at_load ?_); refine w_rowload _ (u := .int .i64 d.fee) rfl rfl rfl hrow rfl (agg_of (by kernel_rfl)) ?_)
      | ((with_reducible refine at_load ?_); (try refine w_yes _ _ _ rfl rfl rfl ?_); refine w_fload _ rfl rfl rfl f9 rfl (agg_of (by kernel_rfl)) ?_)
      | ((with_reducible refine at_field ?_); refine w_pfield Try.stTx _ 1 rfl rfl rfl (by omega) ?_)
      | ((with_reducible refine at_field ?_); (try refine w_yes _ _ _ rfl rfl rfl ?_); refine w_field Try.stBlk _ _ _ rfl rfl rfl (by omega) ?_)
      | (refine w_nidx Try.elTx _ _ (i := k) rfl rfl (v := u9) rfl rfl o9.own hkr.out ?_; intro gk hgk hrow; rw [hrk.out] at hrow)
      | (refine w_nstore (u := .int .i64 (d.fee + 1)) (i := k) (j := 1) _ _ rfl rfl rfl rfl rfl rfl (by kernel_rfl) o9.own hgk hkr.out (by omega) ?_; intro w11 hm hn; rw [hset.out] at hn; have o9' : OwnT W.heap.size w11 u9 (bump b.txs (k + 1)) := ⟨hn, hraw2.out, o9.new⟩; replace f2 := f2.mod hm (n29 _ hgk); replace f9 := f9.mod hm (n99 _ hgk); replace hX := hm.after hX (fun i e => e ▸ o9.new _ hgk); replace o9 := o9'; clear hm hn hrow o9')
      | fail) <;> (try simp only [Act.put, List.setIfInBounds_toArray, List.set_cons_zero, List.set_cons_succ]))
    go_roundw
    case rel => exact ⟨k + 1, by go_num, by omega, f2, f9, o9, hX⟩
    case measure => simp [intOf]; omega

set_option maxRecDepth 100000 in
theorem blockBack_lifted (os : Os) (started : os.Started) (H : Type) (enc : TypeId × Value → H) :
    ReturnsInHanded {} Try.checked os 7 .any (Rows.blockBackSpec.pre6 enc Try.prog Try.f7 Rows.blockBackRow.domain false) (Rows.blockBackSpec.post enc Try.prog Try.f7 false true false false) := by
  refine law_lifted (s := Rows.blockBackSpec) (conds := Rows.blockBackRow.domain) Try.func7 (by kernel_rfl) rfl (fun H ds h => by
      rw [show Try.f7.params.size = 2 from rfl] at h
      match ds, h with
      | [d0, d1], _ => rfl) rfl rfl (by decide +kernel) os started H enc
    (ChangeSpec.witness6 (enc := enc) (C := Try.checked) false ⟨#[], #[.agg #[.int .i64 0, .int .i64 0, .int .i64 0, .int .i64 0, .slice none 0 0], .slice none 0 0], []⟩ 8 (by kernel_rfl) (by kernel_rfl) (by kernel_rfl) (by kernel_rfl)) ?_
  intro W base args ds p hval hA hsz _
  have hp : Try.f7.params.toList = [24, 29] := rfl
  rw [hp] at hA hsz
  obtain ⟨v0, v1, d0, d1, p0, p1, rfl, rfl, rfl, h0, h1⟩ := trodAll_two hA
  obtain ⟨row0, b0, rfl, n0, k0⟩ := arg_Blk hsz (j := 0) rfl rfl (hval 0 24 v0 rfl rfl) h0
  obtain ⟨l1, a1, b1, c1⟩ := arg_bytes hsz (j := 1) rfl rfl (hval 1 29 v1 rfl rfl) h1
  exact blockBack_law row0 b0 v1 l1 W k0 a1 b1 c1

theorem blockBack_holds : Rows.BlockBackSaid :=
  OpenClaim.holds_of_wide 7 Try.f7 rfl rfl rfl rfl rfl rfl rfl ⟨rfl, rfl, rfl, rfl, rfl⟩ rfl rfl rfl rfl rfl (by kernel_rfl) Try.func7 (by kernel_rfl)
    (of_decide_eq_true (by kernel_rfl)) (by unfold Func.isWrapper; first | (rw [if_pos (by decide +kernel)]; kernel_rfl) | (rw [if_neg (by decide +kernel)]; exact ⟨rfl, rfl⟩))
    (fun os started H enc _ => blockBack_lifted os started H enc)
#print axioms blockBack_holds

end Go.Proofs.Ytcjmcnepfnhnlaa
