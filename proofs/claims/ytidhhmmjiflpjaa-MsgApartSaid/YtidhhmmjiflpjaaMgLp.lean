/- The statement MsgApart: unlike messages have unlike bytes; a copy written over leaves the message. No condition. -/
import Derived.Test.YtidhhmmjiflpjaaMgLa
import Derived.Test.YtidhhmmjiflpjaaMg8
import Derived.Test.YtidhhmmjiflpjaaFL
import Derived.Test.YtidhhmmjiflpjaaRowSt
namespace Go.Proofs.Ytidhhmmjiflpjaa
set_option maxRecDepth 100000
open Go.RowKit Go.ChangeShapes Go.WideShapes Go.ChangeAt

theorem msame2R {w : World} {u u2 : Value} {a b : MsgD} (h1 : Recs 2 TxR w u a.bk.txs) (h2 : Recs 2 TxR w u2 b.bk.txs) {q : Bool} (h : decide (a = b) = q) : Calls Try.prog 14 #[.agg (mRow a u).toArray, .agg (mRow b u2).toArray] w fun e w' => ∃ v', e = .returned v' ∧ Ext w w' ∧ Sp.p (.val (.bool q)) v' w' := by
  refine (MSame_any h1 h2).mono ?_
  rintro e w' ⟨rfl, hx⟩; exact ⟨_, rfl, hx, by rw [h]; rfl⟩
def TxD.inc3 (t : TxD) : TxD := ⟨t.id, wrap64 (t.fee + 3)⟩
theorem wrap64_in (n : Int) : -9223372036854775808 ≤ wrap64 n ∧ wrap64 n ≤ 9223372036854775807 := by unfold wrap64; omega
/-- The first k pay three more. -/
def bump3 (l : List TxD) (k : Nat) : List TxD := (l.take k).map TxD.inc3 ++ l.drop k
theorem bump3_len (l : List TxD) (k : Nat) : (bump3 l k).length = l.length := by simp [bump3]; omega
theorem bump3_get {l : List TxD} {k : Nat} {d : TxD} (h : l[k]? = some d) : (bump3 l k)[k]? = some d := by
  have hk := (List.getElem?_eq_some_iff.1 h).1
  rw [bump3, List.getElem?_append_right (by simp; omega), List.getElem?_drop, ← h]
  congr 1; simp; omega
theorem bump3_next {l : List TxD} {k : Nat} {d : TxD} (h : l[k]? = some d) : (bump3 l k).set k d.inc3 = bump3 l (k + 1) := by
  have hk := (List.getElem?_eq_some_iff.1 h).1
  have hd : l.drop k = d :: l.drop (k + 1) := by
    rw [List.drop_eq_getElem_cons hk, (List.getElem?_eq_some_iff.1 h).2]
  rw [bump3, bump3, List.set_append_right _ _ (by simp; omega), hd, List.take_add_one, h]
  have e : k - (List.map TxD.inc3 (l.take k)).length = 0 := by simp; omega
  rw [e]
  simp
theorem bump3_rows {l : List TxD} {k : Nat} {d : TxD} (h : l[k]? = some d) (hk : k < ((bump3 l k).map TxD.row).length) : ((bump3 l k).map TxD.row)[k] = d.row := by
  have h1 := bump3_get h
  rw [List.getElem_map, (List.getElem?_eq_some_iff.1 h1).2]
theorem bump3_set {l : List TxD} {k : Nat} {d : TxD} (h : l[k]? = some d) : ((bump3 l k).map TxD.row).set k (d.row.set 1 (.int .i64 (wrap64 (d.fee + 3)))) = (bump3 l (k + 1)).map TxD.row := by
  rw [← bump3_next h, List.map_set]; rfl
theorem bump3_raw {l : List TxD} (h : ∀ t ∈ l, t.Raw) (k : Nat) : ∀ t ∈ bump3 l k, t.Raw := by
  intro t ht
  rcases List.mem_append.1 ht with ht | ht
  · obtain ⟨s, hs, rfl⟩ := List.mem_map.1 ht
    exact ⟨(h s (List.mem_of_mem_take hs)).id, wrap64_in _⟩
  · exact h t (List.mem_of_mem_drop ht)
set_option maxRecDepth 100000 in
set_option maxHeartbeats 6400000 in
theorem msgApart_law (row : List Value) (a : MsgD) (row2 : List Value) (b : MsgD) (W : World) (ha : MsgR W row a) (hb : MsgR W row2 b) :
    Calls Try.prog 8 #[.agg row.toArray, .agg row2.toArray] W fun e w' => e = .returned (.bool true) ∧ Ext W w' := by
  obtain ⟨⟨u, rfl, r1⟩, hraw⟩ := ha
  obtain ⟨⟨u2, rfl, r2⟩, hraw'⟩ := hb
  refine calls_keep ?_
  have hp := hide_ (show I64 a.vl ∧ I64 a.bk.parent from ⟨hraw.vl, hraw.bk.parent⟩)
  have hp2 := hide_ (show I64 b.vl ∧ I64 b.bk.parent from ⟨hraw'.vl, hraw'.bk.parent⟩)
  have hfew := hide_ hraw.few
  have hrt := hide_ hraw.bk.txs
  have hl16 := hraw.few
  replace r1 := hide_ r1
  replace r2 := hide_ r2
  clear hraw hraw'
  by_cases h1 : a.Right
  rotate_left
  · have hea := hide_ (show ((mE a : Nat) : Int) = 121 from by rw [mE, if_neg h1]; rfl)
    obtain ⟨x, hx0⟩ : ∃ x : Int, ((mE b : Nat) : Int) = x := ⟨_, rfl⟩
    have heb := hide_ hx0
    clear h1 hx0
    go_enter Try.func8, Try.ntmps8
    go_wp2_with ((first
      | (go_at_call 9; refine (msgAlive_any _).mono ?_; rintro e w3 ⟨rfl, hx⟩; replace f2 := f2.ext hx; replace f3 := f3.ext hx; replace hX := hX.trans hx; clear hx)
      | (go_at_call 10; ((with_reducible refine (MBytes_any (d := a) (u := u) (r1.out.ext TxR.stays hX) hp.out.1 hp.out.2).mono ?_); rintro e w3 ⟨v5, rfl, o5, hx⟩; rw [hea.out]; have b5 := o5.byt; replace f2 := f2.ext hx; replace f3 := f3.ext hx; replace hX := hX.trans hx; clear o5 hx))
      | (go_at_call 10; ((with_reducible refine (MBytes_any (d := b) (u := u2) (r2.out.ext TxR.stays hX) hp2.out.1 hp2.out.2).mono ?_); rintro e w4 ⟨v7, rfl, o7, hx⟩; rw [heb.out]; have b7 := o7.byt; replace b5 := b5.ext hx; replace f2 := f2.ext hx; replace f3 := f3.ext hx; replace hX := hX.trans hx; clear o7 hx))
      | ((with_reducible refine at_box ?_); refine w_box (.tmp 0) (mRow a u) rfl rfl rfl rfl ?_; intro g2 w1 hg2 hX f2)
      | ((with_reducible refine at_box ?_); refine w_box (.tmp 1) (mRow b u2) rfl rfl rfl rfl ?_; intro g3 w2 hg3 hx f3; replace f2 := f2.ext hx; replace hX := hX.trans hx; clear hx)
      | ((with_reducible refine at_load ?_); refine w_loadN Try.stMsg (.tmp 2) (mRow a u) rfl rfl rfl f2 rfl mself_at ?_)
      | ((with_reducible refine at_load ?_); refine w_loadN Try.stMsg (.tmp 3) (mRow b u2) rfl rfl rfl f3 rfl mself_at ?_)
      | fail) <;> (try simp only [Act.put, List.setIfInBounds_toArray, List.set_cons_zero, List.set_cons_succ]))
    refine wp_region_phx (by kernel_rfl) ?_; intro wd hxd; replace f2 := f2.ext hxd; replace f3 := f3.ext hxd; replace b5 := b5.ext hxd; replace b7 := b7.ext hxd; replace hX := hX.trans hxd; have s1 := r1.out.ext TxR.stays hX; have s2 := r2.out.ext TxR.stays hX
    refine Ph.rest 0 17 (by kernel_rfl) ?_
    refine LinL.step (s := (.val (.int .i64 (121 : Int)))) [(6, none)] rfl (by kernel_rfl) (op_out 6 (.int .i64 (121 : Int)) rfl (.inl rfl) rfl) ?_
    refine LinL.step (s := (.val (.bool false))) [(24, some 0)] rfl (by kernel_rfl) (op_runs rfl fun σ w' hx hg => ⟨(.bool false), by have h24 : σ.tmps.getD 24 undef = .int .i64 (121 : Int) := hg.1; unfold Runs execOp; simp [Act.eval, h24, go_sem], rfl⟩) ?_
    refine LinL.step (s := (.val (.bool false))) [(25, some 0)] rfl (by kernel_rfl) (op_copy 25 0 (.val (.bool false)) rfl (.inl rfl) rfl) ?_
    refine LinL.step (s := .val undef) [(8, none), (26, some 0)] rfl (by kernel_rfl) (op_no (reads := [(8, none)]) 2 26 0 true rfl rfl rfl) ?_
    refine LinL.step (s := .val undef) [(27, some 0), (26, some 1)] rfl (by kernel_rfl) (op_no (reads := [(27, some 0)]) 2 26 1 true rfl rfl rfl) ?_
    refine LinL.step (s := (.val (.bool false))) [(26, some 2), (28, some 0)] rfl (by kernel_rfl) (op_runs rfl fun σ w' hx hg => ⟨_, runs_pick_f (ρ := σ.eval) (w := w') (.tmp 26) (.tmp 28) (.const (.bool false)) rfl hg.1 rfl, rfl⟩) ?_
    refine LinL.step (s := (.val (.bool false))) [(29, some 0)] rfl (by kernel_rfl) (op_copy 29 0 (.val (.bool false)) rfl (.inl rfl) rfl) ?_
    refine LinL.step (s := .val undef) [(5, none), (30, some 0)] rfl (by kernel_rfl) (op_no (reads := [(5, none)]) 6 30 0 true rfl rfl rfl) ?_
    refine LinL.step (s := .val undef) [(31, some 0), (30, some 1)] rfl (by kernel_rfl) (op_no (reads := [(31, some 0)]) 6 30 1 true rfl rfl rfl) ?_
    refine LinL.step (s := .val undef) [(7, none), (30, some 2)] rfl (by kernel_rfl) (op_no (reads := [(7, none)]) 6 30 2 true rfl rfl rfl) ?_
    refine LinL.step (s := .val undef) [(33, some 0), (30, some 3)] rfl (by kernel_rfl) (op_no (reads := [(33, some 0)]) 6 30 3 true rfl rfl rfl) ?_
    refine LinL.step (s := .val undef) [(32, some 2), (34, some 0), (30, some 4)] rfl (by kernel_rfl) (op_no (reads := [(32, some 2), (34, some 0)]) 6 30 4 true rfl rfl rfl) ?_
    refine LinL.step (s := .val undef) [(2, none), (30, some 5)] rfl (by kernel_rfl) (op_no (reads := [(2, none)]) 6 30 5 true rfl rfl rfl) ?_
    refine LinL.step (s := .val undef) [(3, none), (30, some 6)] rfl (by kernel_rfl) (op_no (reads := [(3, none)]) 6 30 6 true rfl rfl rfl) ?_
    refine LinL.step (s := .val undef) [(36, some 1), (37, some 0), (30, some 7)] rfl (by kernel_rfl) (op_no (reads := [(36, some 1), (37, some 0)]) 6 30 7 true rfl rfl rfl) ?_
    refine LinL.step (s := .val undef) [(35, some 3), (38, some 0), (30, some 8)] rfl (by kernel_rfl) (op_no (reads := [(35, some 3), (38, some 0)]) 6 30 8 true rfl rfl rfl) ?_
    refine LinL.step (s := (.val (.bool false))) [(30, some 9), (39, some 0)] rfl (by kernel_rfl) (op_runs rfl fun σ w' hx hg => ⟨_, runs_pick_f (ρ := σ.eval) (w := w') (.tmp 30) (.tmp 39) (.const (.bool false)) rfl hg.1 rfl, rfl⟩) ?_
    intro wN hxN
    simp only [Fin', List.reverse_cons, List.reverse_nil, List.nil_append, List.cons_append, List.drop_zero, List.take_succ_cons, List.take_zero]
    simp only [Act.put, List.setIfInBounds_toArray, List.set_cons_zero, List.set_cons_succ]
    replace f2 := f2.ext hxN; replace hX := hX.trans hxN
    clear hxd hxN s1 s2 b5 b7 f3
    go_wp2_with ((first
      | (go_at_call 21; refine (refMCopy_any (d := a) (u := u) (r1.out.ext TxR.stays hX) hfew.out).mono ?_; rintro e w5 ⟨u9, rfl, c9, hx⟩; replace f2 := f2.ext hx; replace hX := hX.trans hx; clear hx)
      | (go_at_call 16; refine (MCopy_any (d := a) (u := u) (r1.out.ext TxR.stays hX) hfew.out).mono ?_; rintro e w8 ⟨u10, rfl, o10, hx8⟩)
      | ((with_reducible refine at_alloc ?_); refine w_agalloc (o := ⟨some 9, _, _, _, _, _⟩) Try.agMsg rfl rfl ?_; intro g9 w6 hg9 hx9 f9)
      | ((with_reducible refine at_store ?_); refine w_agput Try.agMsg (us := mRow a u9) (.tmp 9) _ rfl rfl rfl rfl rfl f9 rfl rfl (m_one c9.one') ?_; intro wc hm f9'; replace f9 := f9'; have hx := hm.after hx9 (fun i e => e ▸ hg9); replace c9 := c9.ext TxR.stays hx; replace f2 := f2.ext hx; replace hX := hX.trans hx; clear hm f9' hx9 hg9 hx)
      | ((with_reducible refine at_alloc ?_); refine w_agalloc (o := ⟨some 10, _, _, _, _, _⟩) Try.agMsg rfl rfl ?_; intro g10 w9 hg10 hx f10; have n10 := hide_ (show ∀ k, u10.ownBlock = some k → ¬ g10 = k from fun k hk e => by have h1 := o10.lt hk; omega); replace hg10 := Nat.le_trans hx8.size hg10; replace o10 := o10.ext hx; replace hx8 := hx8.trans hx; clear hx)
      | ((with_reducible refine at_store ?_); refine w_agput Try.agMsg (us := mRow a u10) (.tmp 10) _ rfl rfl rfl rfl rfl f10 rfl rfl (m_one o10.recs.one') ?_; intro w10 hm f10'; replace f10 := f10'; replace o10 := o10.mod hm (fun k hk e => n10.out k hk e.symm); replace hx8 := hm.after hx8 (fun i e => e ▸ hg10); clear hm f10')
      | ((with_reducible refine at_load ?_); refine w_loadN Try.stMsg (.tmp 2) (mRow a u) rfl rfl rfl f2 rfl mself_at ?_)
      | ((with_reducible refine at_field ?_); refine w_mfield _ _ _ rfl rfl rfl (by omega) ?_)
      | ((with_reducible refine at_field ?_); refine w_bfield _ _ 8 rfl rfl rfl ?_)
      | ((with_reducible refine at_load ?_); refine w_fload _ rfl rfl rfl f10 rfl (agg_of (by kernel_rfl)) ?_)
      | ((with_reducible refine at_bi ?_); refine w_rlen Try.elTx _ rfl rfl (v := u10) rfl o10.recs ?_)
      | fail) <;> (try simp only [Act.put, List.setIfInBounds_toArray, List.set_cons_zero, List.set_cons_succ]))
    go_loopw [49] (fun i wr => ∃ k : Nat, i = .int .i64 k ∧ k ≤ a.bk.txs.length ∧ Fs wr g10 (mRow a u10) ∧ OwnT wc.heap.size wr u10 (bump3 a.bk.txs k) ∧ Ext wc wr) (fun i _ => a.bk.txs.length - (intOf i).toNat)
    case atStart => exact ⟨0, rfl, Nat.zero_le _, f10, o10, hx8⟩
    case round =>
      clear f10 o10 hx8
      obtain ⟨k, rfl, hk, f10, o10, hx8⟩ := hrel
      by_cases hge : a.bk.txs.length ≤ k
      · obtain rfl : k = a.bk.txs.length := by omega
        have t1 : decide (a.bk.txs.length < a.bk.txs.length) = false := by simp
        clear hge hk
        go_wp2_with ((first
          | (go_at_call 15; refine (refMSame_any (a := a) (b := a) (u1 := u) (u2 := u9) (r1.out.ext TxR.stays (hX.trans hx8)) (c9.ext TxR.stays hx8)).mono ?_; rintro e w12 ⟨rfl, hx⟩; replace hX := (hX.trans hx8).trans hx; clear hx)
          | ((with_reducible refine at_load ?_); refine w_loadN Try.stMsg (.tmp 2) (mRow a u) rfl rfl rfl (f2.ext hx8) rfl mself_at ?_)
          | ((with_reducible refine at_load ?_); refine w_loadN Try.stMsg (.tmp 9) (mRow a u9) rfl rfl rfl (f9.ext hx8) rfl mself_at ?_)
          | fail) <;> (try simp only [Act.put, List.setIfInBounds_toArray, List.set_cons_zero, List.set_cons_succ]))
        go_ret
        exact Keep.intro ⟨rfl, hX⟩
      have hlt : k < a.bk.txs.length := by omega
      have t1 : decide (k < a.bk.txs.length) = true := by simpa using hlt
      obtain ⟨d, hd⟩ : ∃ d, a.bk.txs[k]? = some d := ⟨_, List.getElem?_eq_getElem hlt⟩
      have hkr := hide_ (show k < ((bump3 a.bk.txs k).map TxD.row).length from by rw [List.length_map, bump3_len]; exact hlt)
      have hrk := hide_ (bump3_rows hd hkr.out)
      have hset := hide_ (show ((bump3 a.bk.txs k).map TxD.row).set k (((bump3 a.bk.txs k).map TxD.row)[k]'hkr.out |>.set 1 (.int .i64 (wrap64 (d.fee + 3)))) = (bump3 a.bk.txs (k + 1)).map TxD.row from by rw [hrk.out]; exact bump3_set hd)
      have hraw2 := hide_ (bump3_raw hrt.out (k + 1))
      clear hge hd
      go_wp2_with ((first
        | ((with_reducible refine at_load ?_); refine w_rowload _ (u := .int .i64 d.fee) rfl rfl rfl hrow rfl (agg_of (by kernel_rfl)) ?_)
        | ((with_reducible refine at_load ?_); refine w_fload _ rfl rfl rfl f10 rfl (agg_of (by kernel_rfl)) ?_)
        | ((with_reducible refine at_field ?_); refine w_pfield Try.stTx _ 1 rfl rfl rfl (by omega) ?_)
        | ((with_reducible refine at_field ?_); refine w_bfield _ _ 8 rfl rfl rfl ?_)
        | ((with_reducible refine at_field ?_); refine w_mfield _ _ _ rfl rfl rfl (by omega) ?_)
        | (refine w_nidx Try.elTx _ _ (i := k) rfl rfl (v := u10) rfl rfl o10.own hkr.out ?_; intro gk hgk hrow; rw [hrk.out] at hrow)
        | (refine w_nstore (u := .int .i64 (wrap64 (d.fee + 3))) (i := k) (j := 1) _ _ rfl rfl rfl rfl rfl rfl (by kernel_rfl) o10.own hgk hkr.out (by omega) ?_; intro w11 hm hn; rw [hset.out] at hn; have o10' : OwnT wc.heap.size w11 u10 (bump3 a.bk.txs (k + 1)) := ⟨hn, hraw2.out, o10.new⟩; replace f10 := f10.mod hm (n10.out _ hgk); replace hx8 := hm.after hx8 (fun i e => e ▸ o10.new _ hgk); replace o10 := o10'; clear hm hn hrow o10')
        | fail) <;> (try simp only [Act.put, List.setIfInBounds_toArray, List.set_cons_zero, List.set_cons_succ]))
      go_roundw
      case rel => exact ⟨k + 1, by go_num, by omega, f10, o10, hx8⟩
      case measure => simp [intOf]; omega
  have hea := hide_ (show ((mE a : Nat) : Int) = 0 from by rw [mE, if_pos h1]; rfl)
  by_cases h2 : b.Right
  rotate_left
  · have heb := hide_ (show ((mE b : Nat) : Int) = 121 from by rw [mE, if_neg h2]; rfl)
    clear h1 h2
    go_enter Try.func8, Try.ntmps8
    go_wp2_with ((first
      | (go_at_call 9; refine (msgAlive_any _).mono ?_; rintro e w3 ⟨rfl, hx⟩; replace f2 := f2.ext hx; replace f3 := f3.ext hx; replace hX := hX.trans hx; clear hx)
      | (go_at_call 10; ((with_reducible refine (MBytes_any (d := a) (u := u) (r1.out.ext TxR.stays hX) hp.out.1 hp.out.2).mono ?_); rintro e w3 ⟨v5, rfl, o5, hx⟩; rw [hea.out]; have b5 := o5.byt; replace f2 := f2.ext hx; replace f3 := f3.ext hx; replace hX := hX.trans hx; clear o5 hx))
      | (go_at_call 10; ((with_reducible refine (MBytes_any (d := b) (u := u2) (r2.out.ext TxR.stays hX) hp2.out.1 hp2.out.2).mono ?_); rintro e w4 ⟨v7, rfl, o7, hx⟩; rw [heb.out]; have b7 := o7.byt; replace b5 := b5.ext hx; replace f2 := f2.ext hx; replace f3 := f3.ext hx; replace hX := hX.trans hx; clear o7 hx))
      | ((with_reducible refine at_box ?_); refine w_box (.tmp 0) (mRow a u) rfl rfl rfl rfl ?_; intro g2 w1 hg2 hX f2)
      | ((with_reducible refine at_box ?_); refine w_box (.tmp 1) (mRow b u2) rfl rfl rfl rfl ?_; intro g3 w2 hg3 hx f3; replace f2 := f2.ext hx; replace hX := hX.trans hx; clear hx)
      | ((with_reducible refine at_load ?_); refine w_loadN Try.stMsg (.tmp 2) (mRow a u) rfl rfl rfl f2 rfl mself_at ?_)
      | ((with_reducible refine at_load ?_); refine w_loadN Try.stMsg (.tmp 3) (mRow b u2) rfl rfl rfl f3 rfl mself_at ?_)
      | fail) <;> (try simp only [Act.put, List.setIfInBounds_toArray, List.set_cons_zero, List.set_cons_succ]))
    refine wp_region_phx (by kernel_rfl) ?_; intro wd hxd; replace f2 := f2.ext hxd; replace f3 := f3.ext hxd; replace b5 := b5.ext hxd; replace b7 := b7.ext hxd; replace hX := hX.trans hxd; have s1 := r1.out.ext TxR.stays hX; have s2 := r2.out.ext TxR.stays hX
    refine Ph.rest 0 17 (by kernel_rfl) ?_
    refine LinL.step (s := (.val (.int .i64 (0 : Int)))) [(6, none)] rfl (by kernel_rfl) (op_out 6 (.int .i64 (0 : Int)) rfl (.inl rfl) rfl) ?_
    refine LinL.step (s := (.val (.bool true))) [(24, some 0)] rfl (by kernel_rfl) (op_runs rfl fun σ w' hx hg => ⟨(.bool true), by have h24 : σ.tmps.getD 24 undef = .int .i64 (0 : Int) := hg.1; unfold Runs execOp; simp [Act.eval, h24, go_sem], rfl⟩) ?_
    refine LinL.step (s := (.val (.bool true))) [(25, some 0)] rfl (by kernel_rfl) (op_copy 25 0 (.val (.bool true)) rfl (.inl rfl) rfl) ?_
    refine LinL.step (s := (.val (.int .i64 (121 : Int)))) [(8, none), (26, some 0)] rfl (by kernel_rfl) (op_yes (reads := [(8, none)]) 2 26 0 true rfl rfl rfl (op_out 8 (.int .i64 (121 : Int)) rfl (.inl rfl) rfl)) ?_
    refine LinL.step (s := (.val (.bool false))) [(27, some 0), (26, some 1)] rfl (by kernel_rfl) (op_yes (reads := [(27, some 0)]) 2 26 1 true rfl rfl rfl (op_runs rfl fun σ w' hx hg => ⟨(.bool false), by have h27 : σ.tmps.getD 27 undef = .int .i64 (121 : Int) := hg.1; unfold Runs execOp; simp [Act.eval, h27, go_sem], rfl⟩)) ?_
    refine LinL.step (s := (.val (.bool false))) [(26, some 2), (28, some 0)] rfl (by kernel_rfl) (op_runs rfl fun σ w' hx hg => ⟨_, runs_pick_t (ρ := σ.eval) (w := w') (.tmp 26) (.tmp 28) (.const (.bool false)) rfl hg.1 hg.2.1, rfl⟩) ?_
    refine LinL.step (s := (.val (.bool false))) [(29, some 0)] rfl (by kernel_rfl) (op_copy 29 0 (.val (.bool false)) rfl (.inl rfl) rfl) ?_
    refine LinL.step (s := .val undef) [(5, none), (30, some 0)] rfl (by kernel_rfl) (op_no (reads := [(5, none)]) 6 30 0 true rfl rfl rfl) ?_
    refine LinL.step (s := .val undef) [(31, some 0), (30, some 1)] rfl (by kernel_rfl) (op_no (reads := [(31, some 0)]) 6 30 1 true rfl rfl rfl) ?_
    refine LinL.step (s := .val undef) [(7, none), (30, some 2)] rfl (by kernel_rfl) (op_no (reads := [(7, none)]) 6 30 2 true rfl rfl rfl) ?_
    refine LinL.step (s := .val undef) [(33, some 0), (30, some 3)] rfl (by kernel_rfl) (op_no (reads := [(33, some 0)]) 6 30 3 true rfl rfl rfl) ?_
    refine LinL.step (s := .val undef) [(32, some 2), (34, some 0), (30, some 4)] rfl (by kernel_rfl) (op_no (reads := [(32, some 2), (34, some 0)]) 6 30 4 true rfl rfl rfl) ?_
    refine LinL.step (s := .val undef) [(2, none), (30, some 5)] rfl (by kernel_rfl) (op_no (reads := [(2, none)]) 6 30 5 true rfl rfl rfl) ?_
    refine LinL.step (s := .val undef) [(3, none), (30, some 6)] rfl (by kernel_rfl) (op_no (reads := [(3, none)]) 6 30 6 true rfl rfl rfl) ?_
    refine LinL.step (s := .val undef) [(36, some 1), (37, some 0), (30, some 7)] rfl (by kernel_rfl) (op_no (reads := [(36, some 1), (37, some 0)]) 6 30 7 true rfl rfl rfl) ?_
    refine LinL.step (s := .val undef) [(35, some 3), (38, some 0), (30, some 8)] rfl (by kernel_rfl) (op_no (reads := [(35, some 3), (38, some 0)]) 6 30 8 true rfl rfl rfl) ?_
    refine LinL.step (s := (.val (.bool false))) [(30, some 9), (39, some 0)] rfl (by kernel_rfl) (op_runs rfl fun σ w' hx hg => ⟨_, runs_pick_f (ρ := σ.eval) (w := w') (.tmp 30) (.tmp 39) (.const (.bool false)) rfl hg.1 rfl, rfl⟩) ?_
    intro wN hxN
    simp only [Fin', List.reverse_cons, List.reverse_nil, List.nil_append, List.cons_append, List.drop_zero, List.take_succ_cons, List.take_zero]
    simp only [Act.put, List.setIfInBounds_toArray, List.set_cons_zero, List.set_cons_succ]
    replace f2 := f2.ext hxN; replace hX := hX.trans hxN
    clear hxd hxN s1 s2 b5 b7 f3
    go_wp2_with ((first
      | (go_at_call 21; refine (refMCopy_any (d := a) (u := u) (r1.out.ext TxR.stays hX) hfew.out).mono ?_; rintro e w5 ⟨u9, rfl, c9, hx⟩; replace f2 := f2.ext hx; replace hX := hX.trans hx; clear hx)
      | (go_at_call 16; refine (MCopy_any (d := a) (u := u) (r1.out.ext TxR.stays hX) hfew.out).mono ?_; rintro e w8 ⟨u10, rfl, o10, hx8⟩)
      | ((with_reducible refine at_alloc ?_); refine w_agalloc (o := ⟨some 9, _, _, _, _, _⟩) Try.agMsg rfl rfl ?_; intro g9 w6 hg9 hx9 f9)
      | ((with_reducible refine at_store ?_); refine w_agput Try.agMsg (us := mRow a u9) (.tmp 9) _ rfl rfl rfl rfl rfl f9 rfl rfl (m_one c9.one') ?_; intro wc hm f9'; replace f9 := f9'; have hx := hm.after hx9 (fun i e => e ▸ hg9); replace c9 := c9.ext TxR.stays hx; replace f2 := f2.ext hx; replace hX := hX.trans hx; clear hm f9' hx9 hg9 hx)
      | ((with_reducible refine at_alloc ?_); refine w_agalloc (o := ⟨some 10, _, _, _, _, _⟩) Try.agMsg rfl rfl ?_; intro g10 w9 hg10 hx f10; have n10 := hide_ (show ∀ k, u10.ownBlock = some k → ¬ g10 = k from fun k hk e => by have h1 := o10.lt hk; omega); replace hg10 := Nat.le_trans hx8.size hg10; replace o10 := o10.ext hx; replace hx8 := hx8.trans hx; clear hx)
      | ((with_reducible refine at_store ?_); refine w_agput Try.agMsg (us := mRow a u10) (.tmp 10) _ rfl rfl rfl rfl rfl f10 rfl rfl (m_one o10.recs.one') ?_; intro w10 hm f10'; replace f10 := f10'; replace o10 := o10.mod hm (fun k hk e => n10.out k hk e.symm); replace hx8 := hm.after hx8 (fun i e => e ▸ hg10); clear hm f10')
      | ((with_reducible refine at_load ?_); refine w_loadN Try.stMsg (.tmp 2) (mRow a u) rfl rfl rfl f2 rfl mself_at ?_)
      | ((with_reducible refine at_field ?_); refine w_mfield _ _ _ rfl rfl rfl (by omega) ?_)
      | ((with_reducible refine at_field ?_); refine w_bfield _ _ 8 rfl rfl rfl ?_)
      | ((with_reducible refine at_load ?_); refine w_fload _ rfl rfl rfl f10 rfl (agg_of (by kernel_rfl)) ?_)
      | ((with_reducible refine at_bi ?_); refine w_rlen Try.elTx _ rfl rfl (v := u10) rfl o10.recs ?_)
      | fail) <;> (try simp only [Act.put, List.setIfInBounds_toArray, List.set_cons_zero, List.set_cons_succ]))
    go_loopw [49] (fun i wr => ∃ k : Nat, i = .int .i64 k ∧ k ≤ a.bk.txs.length ∧ Fs wr g10 (mRow a u10) ∧ OwnT wc.heap.size wr u10 (bump3 a.bk.txs k) ∧ Ext wc wr) (fun i _ => a.bk.txs.length - (intOf i).toNat)
    case atStart => exact ⟨0, rfl, Nat.zero_le _, f10, o10, hx8⟩
    case round =>
      clear f10 o10 hx8
      obtain ⟨k, rfl, hk, f10, o10, hx8⟩ := hrel
      by_cases hge : a.bk.txs.length ≤ k
      · obtain rfl : k = a.bk.txs.length := by omega
        have t1 : decide (a.bk.txs.length < a.bk.txs.length) = false := by simp
        clear hge hk
        go_wp2_with ((first
          | (go_at_call 15; refine (refMSame_any (a := a) (b := a) (u1 := u) (u2 := u9) (r1.out.ext TxR.stays (hX.trans hx8)) (c9.ext TxR.stays hx8)).mono ?_; rintro e w12 ⟨rfl, hx⟩; replace hX := (hX.trans hx8).trans hx; clear hx)
          | ((with_reducible refine at_load ?_); refine w_loadN Try.stMsg (.tmp 2) (mRow a u) rfl rfl rfl (f2.ext hx8) rfl mself_at ?_)
          | ((with_reducible refine at_load ?_); refine w_loadN Try.stMsg (.tmp 9) (mRow a u9) rfl rfl rfl (f9.ext hx8) rfl mself_at ?_)
          | fail) <;> (try simp only [Act.put, List.setIfInBounds_toArray, List.set_cons_zero, List.set_cons_succ]))
        go_ret
        exact Keep.intro ⟨rfl, hX⟩
      have hlt : k < a.bk.txs.length := by omega
      have t1 : decide (k < a.bk.txs.length) = true := by simpa using hlt
      obtain ⟨d, hd⟩ : ∃ d, a.bk.txs[k]? = some d := ⟨_, List.getElem?_eq_getElem hlt⟩
      have hkr := hide_ (show k < ((bump3 a.bk.txs k).map TxD.row).length from by rw [List.length_map, bump3_len]; exact hlt)
      have hrk := hide_ (bump3_rows hd hkr.out)
      have hset := hide_ (show ((bump3 a.bk.txs k).map TxD.row).set k (((bump3 a.bk.txs k).map TxD.row)[k]'hkr.out |>.set 1 (.int .i64 (wrap64 (d.fee + 3)))) = (bump3 a.bk.txs (k + 1)).map TxD.row from by rw [hrk.out]; exact bump3_set hd)
      have hraw2 := hide_ (bump3_raw hrt.out (k + 1))
      clear hge hd
      go_wp2_with ((first
        | ((with_reducible refine at_load ?_); refine w_rowload _ (u := .int .i64 d.fee) rfl rfl rfl hrow rfl (agg_of (by kernel_rfl)) ?_)
        | ((with_reducible refine at_load ?_); refine w_fload _ rfl rfl rfl f10 rfl (agg_of (by kernel_rfl)) ?_)
        | ((with_reducible refine at_field ?_); refine w_pfield Try.stTx _ 1 rfl rfl rfl (by omega) ?_)
        | ((with_reducible refine at_field ?_); refine w_bfield _ _ 8 rfl rfl rfl ?_)
        | ((with_reducible refine at_field ?_); refine w_mfield _ _ _ rfl rfl rfl (by omega) ?_)
        | (refine w_nidx Try.elTx _ _ (i := k) rfl rfl (v := u10) rfl rfl o10.own hkr.out ?_; intro gk hgk hrow; rw [hrk.out] at hrow)
        | (refine w_nstore (u := .int .i64 (wrap64 (d.fee + 3))) (i := k) (j := 1) _ _ rfl rfl rfl rfl rfl rfl (by kernel_rfl) o10.own hgk hkr.out (by omega) ?_; intro w11 hm hn; rw [hset.out] at hn; have o10' : OwnT wc.heap.size w11 u10 (bump3 a.bk.txs (k + 1)) := ⟨hn, hraw2.out, o10.new⟩; replace f10 := f10.mod hm (n10.out _ hgk); replace hx8 := hm.after hx8 (fun i e => e ▸ o10.new _ hgk); replace o10 := o10'; clear hm hn hrow o10')
        | fail) <;> (try simp only [Act.put, List.setIfInBounds_toArray, List.set_cons_zero, List.set_cons_succ]))
      go_roundw
      case rel => exact ⟨k + 1, by go_num, by omega, f10, o10, hx8⟩
      case measure => simp [intOf]; omega
  have heb := hide_ (show ((mE b : Nat) : Int) = 0 from by rw [mE, if_pos h2]; rfl)
  obtain ⟨q, hq0⟩ : ∃ q, decide (a = b) = q := ⟨_, rfl⟩
  have hq := hide_ hq0
  have hst : ((strN (mB a)).toList == (strN (mB b)).toList) = q := by
    rw [mB, mB, if_pos h1, if_pos h2, ← hq0]
    by_cases e : a = b
    · rw [decide_eq_true e, e]; simp
    · rw [decide_eq_false e, beq_eq_false_iff_ne]; exact strN_ne' a.bytes_lt b.bytes_lt (fun h => e ((MsgD.bytes_inj h1 h2).1 h))
  clear h1 h2 hq0
  go_enter Try.func8, Try.ntmps8
  go_wp2_with ((first
    | (go_at_call 9; refine (msgAlive_any _).mono ?_; rintro e w3 ⟨rfl, hx⟩; replace f2 := f2.ext hx; replace f3 := f3.ext hx; replace hX := hX.trans hx; clear hx)
    | (go_at_call 10; ((with_reducible refine (MBytes_any (d := a) (u := u) (r1.out.ext TxR.stays hX) hp.out.1 hp.out.2).mono ?_); rintro e w3 ⟨v5, rfl, o5, hx⟩; rw [hea.out]; have b5 := o5.byt; replace f2 := f2.ext hx; replace f3 := f3.ext hx; replace hX := hX.trans hx; clear o5 hx))
    | (go_at_call 10; ((with_reducible refine (MBytes_any (d := b) (u := u2) (r2.out.ext TxR.stays hX) hp2.out.1 hp2.out.2).mono ?_); rintro e w4 ⟨v7, rfl, o7, hx⟩; rw [heb.out]; have b7 := o7.byt; replace b5 := b5.ext hx; replace f2 := f2.ext hx; replace f3 := f3.ext hx; replace hX := hX.trans hx; clear o7 hx))
    | ((with_reducible refine at_box ?_); refine w_box (.tmp 0) (mRow a u) rfl rfl rfl rfl ?_; intro g2 w1 hg2 hX f2)
    | ((with_reducible refine at_box ?_); refine w_box (.tmp 1) (mRow b u2) rfl rfl rfl rfl ?_; intro g3 w2 hg3 hx f3; replace f2 := f2.ext hx; replace hX := hX.trans hx; clear hx)
    | ((with_reducible refine at_load ?_); refine w_loadN Try.stMsg (.tmp 2) (mRow a u) rfl rfl rfl f2 rfl mself_at ?_)
    | ((with_reducible refine at_load ?_); refine w_loadN Try.stMsg (.tmp 3) (mRow b u2) rfl rfl rfl f3 rfl mself_at ?_)
    | fail) <;> (try simp only [Act.put, List.setIfInBounds_toArray, List.set_cons_zero, List.set_cons_succ]))
  refine wp_region_phx (by kernel_rfl) ?_; intro wd hxd; replace f2 := f2.ext hxd; replace f3 := f3.ext hxd; replace b5 := b5.ext hxd; replace b7 := b7.ext hxd; replace hX := hX.trans hxd; have s1 := r1.out.ext TxR.stays hX; have s2 := r2.out.ext TxR.stays hX
  refine Ph.rest 0 17 (by kernel_rfl) ?_
  refine LinL.step (s := (.val (.int .i64 (0 : Int)))) [(6, none)] rfl (by kernel_rfl) (op_out 6 (.int .i64 (0 : Int)) rfl (.inl rfl) rfl) ?_
  refine LinL.step (s := (.val (.bool true))) [(24, some 0)] rfl (by kernel_rfl) (op_runs rfl fun σ w' hx hg => ⟨(.bool true), by have h24 : σ.tmps.getD 24 undef = .int .i64 (0 : Int) := hg.1; unfold Runs execOp; simp [Act.eval, h24, go_sem], rfl⟩) ?_
  refine LinL.step (s := (.val (.bool true))) [(25, some 0)] rfl (by kernel_rfl) (op_copy 25 0 (.val (.bool true)) rfl (.inl rfl) rfl) ?_
  refine LinL.step (s := (.val (.int .i64 (0 : Int)))) [(8, none), (26, some 0)] rfl (by kernel_rfl) (op_yes (reads := [(8, none)]) 2 26 0 true rfl rfl rfl (op_out 8 (.int .i64 (0 : Int)) rfl (.inl rfl) rfl)) ?_
  refine LinL.step (s := (.val (.bool true))) [(27, some 0), (26, some 1)] rfl (by kernel_rfl) (op_yes (reads := [(27, some 0)]) 2 26 1 true rfl rfl rfl (op_runs rfl fun σ w' hx hg => ⟨(.bool true), by have h27 : σ.tmps.getD 27 undef = .int .i64 (0 : Int) := hg.1; unfold Runs execOp; simp [Act.eval, h27, go_sem], rfl⟩)) ?_
  refine LinL.step (s := (.val (.bool true))) [(26, some 2), (28, some 0)] rfl (by kernel_rfl) (op_runs rfl fun σ w' hx hg => ⟨_, runs_pick_t (ρ := σ.eval) (w := w') (.tmp 26) (.tmp 28) (.const (.bool false)) rfl hg.1 hg.2.1, rfl⟩) ?_
  refine LinL.step (s := (.val (.bool true))) [(29, some 0)] rfl (by kernel_rfl) (op_copy 29 0 (.val (.bool true)) rfl (.inl rfl) rfl) ?_
  refine LinL.step (s := (.val (v5))) [(5, none), (30, some 0)] rfl (by kernel_rfl) (op_yes (reads := [(5, none)]) 6 30 0 true rfl rfl rfl (op_out 5 (v5) rfl (.inl rfl) rfl)) ?_
  refine LinL.step (s := (.val (.string (strN (mB a))))) [(31, some 0), (30, some 1)] rfl (by kernel_rfl) (op_yes (reads := [(31, some 0)]) 6 30 1 true rfl rfl rfl (op_runs rfl fun σ w' hx hg => ⟨_, runs_str (ρ := σ.eval) (w := w') (.tmp 31) rfl hg.1 (b5.ext hx), rfl⟩)) ?_
  refine LinL.step (s := (.val (v7))) [(7, none), (30, some 2)] rfl (by kernel_rfl) (op_yes (reads := [(7, none)]) 6 30 2 true rfl rfl rfl (op_out 7 (v7) rfl (.inl rfl) rfl)) ?_
  refine LinL.step (s := (.val (.string (strN (mB b))))) [(33, some 0), (30, some 3)] rfl (by kernel_rfl) (op_yes (reads := [(33, some 0)]) 6 30 3 true rfl rfl rfl (op_runs rfl fun σ w' hx hg => ⟨_, runs_str (ρ := σ.eval) (w := w') (.tmp 33) rfl hg.1 (b7.ext hx), rfl⟩)) ?_
  refine LinL.step (s := (.val (.bool q))) [(32, some 2), (34, some 0), (30, some 4)] rfl (by kernel_rfl) (op_yes (reads := [(32, some 2), (34, some 0)]) 6 30 4 true rfl rfl rfl (op_runs rfl fun σ w' hx hg => ⟨(.bool q), by have h32 : σ.tmps.getD 32 undef = .string (strN (mB a)) := hg.1; have h34 : σ.tmps.getD 34 undef = .string (strN (mB b)) := hg.2.1; unfold Runs execOp; simp [Act.eval, h32, h34, go_sem, hst], rfl⟩)) ?_
  refine LinL.step (s := (.val (.agg (mRow a u).toArray))) [(2, none), (30, some 5)] rfl (by kernel_rfl) (op_yes (reads := [(2, none)]) 6 30 5 true rfl rfl rfl (op_runs rfl fun σ w' hx hg => ⟨_, runs_loadN (ρ := σ.eval) (w := w') (us := mRow a u) Try.stMsg (.tmp 2) rfl hg.1 (f2.ext hx) rfl mself_at, rfl⟩)) ?_
  refine LinL.step (s := (.val (.agg (mRow b u2).toArray))) [(3, none), (30, some 6)] rfl (by kernel_rfl) (op_yes (reads := [(3, none)]) 6 30 6 true rfl rfl rfl (op_runs rfl fun σ w' hx hg => ⟨_, runs_loadN (ρ := σ.eval) (w := w') (us := mRow b u2) Try.stMsg (.tmp 3) rfl hg.1 (f3.ext hx) rfl mself_at, rfl⟩)) ?_
  refine LinL.step (s := (.val (.bool q))) [(36, some 1), (37, some 0), (30, some 7)] rfl (by kernel_rfl) (op_yes (reads := [(36, some 1), (37, some 0)]) 6 30 7 true rfl rfl rfl (op_calls 14 #[(.tmp 36), (.tmp 37)] #[29, 29] (fun σ => #[.agg (mRow a u).toArray, .agg (mRow b u2).toArray]) rfl rfl (fun _ _ => rfl) fun σ w' hx hg => ⟨by have h36 : σ.tmps.getD 36 undef = .agg (mRow a u).toArray := hg.1; have h37 : σ.tmps.getD 37 undef = .agg (mRow b u2).toArray := hg.2.1; simp only [List.map_toArray, List.map_cons, List.map_nil, Act.eval, h36, h37], msame2R (a := a) (b := b) (u := u) (u2 := u2) (s1.ext TxR.stays hx) (s2.ext TxR.stays hx) hq.out⟩)) ?_
  refine LinL.step (s := (.val (.bool false))) [(35, some 3), (38, some 0), (30, some 8)] rfl (by kernel_rfl) (op_yes (reads := [(35, some 3), (38, some 0)]) 6 30 8 true rfl rfl rfl (op_runs rfl fun σ w' hx hg => ⟨(.bool false), by have h35 : σ.tmps.getD 35 undef = .bool q := hg.1; have h38 : σ.tmps.getD 38 undef = .bool q := hg.2.1; unfold Runs execOp; simp [Act.eval, h35, h38, go_sem], rfl⟩)) ?_
  refine LinL.step (s := (.val (.bool false))) [(30, some 9), (39, some 0)] rfl (by kernel_rfl) (op_runs rfl fun σ w' hx hg => ⟨_, runs_pick_t (ρ := σ.eval) (w := w') (.tmp 30) (.tmp 39) (.const (.bool false)) rfl hg.1 hg.2.1, rfl⟩) ?_
  intro wN hxN
  simp only [Fin', List.reverse_cons, List.reverse_nil, List.nil_append, List.cons_append, List.drop_zero, List.take_succ_cons, List.take_zero]
  simp only [Act.put, List.setIfInBounds_toArray, List.set_cons_zero, List.set_cons_succ]
  replace f2 := f2.ext hxN; replace hX := hX.trans hxN
  clear hxd hxN s1 s2 b5 b7 f3
  go_wp2_with ((first
    | (go_at_call 21; refine (refMCopy_any (d := a) (u := u) (r1.out.ext TxR.stays hX) hfew.out).mono ?_; rintro e w5 ⟨u9, rfl, c9, hx⟩; replace f2 := f2.ext hx; replace hX := hX.trans hx; clear hx)
    | (go_at_call 16; refine (MCopy_any (d := a) (u := u) (r1.out.ext TxR.stays hX) hfew.out).mono ?_; rintro e w8 ⟨u10, rfl, o10, hx8⟩)
    | ((with_reducible refine at_alloc ?_); refine w_agalloc (o := ⟨some 9, _, _, _, _, _⟩) Try.agMsg rfl rfl ?_; intro g9 w6 hg9 hx9 f9)
    | ((with_reducible refine at_store ?_); refine w_agput Try.agMsg (us := mRow a u9) (.tmp 9) _ rfl rfl rfl rfl rfl f9 rfl rfl (m_one c9.one') ?_; intro wc hm f9'; replace f9 := f9'; have hx := hm.after hx9 (fun i e => e ▸ hg9); replace c9 := c9.ext TxR.stays hx; replace f2 := f2.ext hx; replace hX := hX.trans hx; clear hm f9' hx9 hg9 hx)
    | ((with_reducible refine at_alloc ?_); refine w_agalloc (o := ⟨some 10, _, _, _, _, _⟩) Try.agMsg rfl rfl ?_; intro g10 w9 hg10 hx f10; have n10 := hide_ (show ∀ k, u10.ownBlock = some k → ¬ g10 = k from fun k hk e => by have h1 := o10.lt hk; omega); replace hg10 := Nat.le_trans hx8.size hg10; replace o10 := o10.ext hx; replace hx8 := hx8.trans hx; clear hx)
    | ((with_reducible refine at_store ?_); refine w_agput Try.agMsg (us := mRow a u10) (.tmp 10) _ rfl rfl rfl rfl rfl f10 rfl rfl (m_one o10.recs.one') ?_; intro w10 hm f10'; replace f10 := f10'; replace o10 := o10.mod hm (fun k hk e => n10.out k hk e.symm); replace hx8 := hm.after hx8 (fun i e => e ▸ hg10); clear hm f10')
    | ((with_reducible refine at_load ?_); refine w_loadN Try.stMsg (.tmp 2) (mRow a u) rfl rfl rfl f2 rfl mself_at ?_)
    | ((with_reducible refine at_field ?_); refine w_mfield _ _ _ rfl rfl rfl (by omega) ?_)
    | ((with_reducible refine at_field ?_); refine w_bfield _ _ 8 rfl rfl rfl ?_)
    | ((with_reducible refine at_load ?_); refine w_fload _ rfl rfl rfl f10 rfl (agg_of (by kernel_rfl)) ?_)
    | ((with_reducible refine at_bi ?_); refine w_rlen Try.elTx _ rfl rfl (v := u10) rfl o10.recs ?_)
    | fail) <;> (try simp only [Act.put, List.setIfInBounds_toArray, List.set_cons_zero, List.set_cons_succ]))
  go_loopw [49] (fun i wr => ∃ k : Nat, i = .int .i64 k ∧ k ≤ a.bk.txs.length ∧ Fs wr g10 (mRow a u10) ∧ OwnT wc.heap.size wr u10 (bump3 a.bk.txs k) ∧ Ext wc wr) (fun i _ => a.bk.txs.length - (intOf i).toNat)
  case atStart => exact ⟨0, rfl, Nat.zero_le _, f10, o10, hx8⟩
  case round =>
    clear f10 o10 hx8
    obtain ⟨k, rfl, hk, f10, o10, hx8⟩ := hrel
    by_cases hge : a.bk.txs.length ≤ k
    · obtain rfl : k = a.bk.txs.length := by omega
      have t1 : decide (a.bk.txs.length < a.bk.txs.length) = false := by simp
      clear hge hk
      go_wp2_with ((first
        | (go_at_call 15; refine (refMSame_any (a := a) (b := a) (u1 := u) (u2 := u9) (r1.out.ext TxR.stays (hX.trans hx8)) (c9.ext TxR.stays hx8)).mono ?_; rintro e w12 ⟨rfl, hx⟩; replace hX := (hX.trans hx8).trans hx; clear hx)
        | ((with_reducible refine at_load ?_); refine w_loadN Try.stMsg (.tmp 2) (mRow a u) rfl rfl rfl (f2.ext hx8) rfl mself_at ?_)
        | ((with_reducible refine at_load ?_); refine w_loadN Try.stMsg (.tmp 9) (mRow a u9) rfl rfl rfl (f9.ext hx8) rfl mself_at ?_)
        | fail) <;> (try simp only [Act.put, List.setIfInBounds_toArray, List.set_cons_zero, List.set_cons_succ]))
      go_ret
      exact Keep.intro ⟨rfl, hX⟩
    have hlt : k < a.bk.txs.length := by omega
    have t1 : decide (k < a.bk.txs.length) = true := by simpa using hlt
    obtain ⟨d, hd⟩ : ∃ d, a.bk.txs[k]? = some d := ⟨_, List.getElem?_eq_getElem hlt⟩
    have hkr := hide_ (show k < ((bump3 a.bk.txs k).map TxD.row).length from by rw [List.length_map, bump3_len]; exact hlt)
    have hrk := hide_ (bump3_rows hd hkr.out)
    have hset := hide_ (show ((bump3 a.bk.txs k).map TxD.row).set k (((bump3 a.bk.txs k).map TxD.row)[k]'hkr.out |>.set 1 (.int .i64 (wrap64 (d.fee + 3)))) = (bump3 a.bk.txs (k + 1)).map TxD.row from by rw [hrk.out]; exact bump3_set hd)
    have hraw2 := hide_ (bump3_raw hrt.out (k + 1))
    clear hge hd
    go_wp2_with ((first
      | ((with_reducible refine at_load ?_); refine w_rowload _ (u := .int .i64 d.fee) rfl rfl rfl hrow rfl (agg_of (by kernel_rfl)) ?_)
      | ((with_reducible refine at_load ?_); refine w_fload _ rfl rfl rfl f10 rfl (agg_of (by kernel_rfl)) ?_)
      | ((with_reducible refine at_field ?_); refine w_pfield Try.stTx _ 1 rfl rfl rfl (by omega) ?_)
      | ((with_reducible refine at_field ?_); refine w_bfield _ _ 8 rfl rfl rfl ?_)
      | ((with_reducible refine at_field ?_); refine w_mfield _ _ _ rfl rfl rfl (by omega) ?_)
      | (refine w_nidx Try.elTx _ _ (i := k) rfl rfl (v := u10) rfl rfl o10.own hkr.out ?_; intro gk hgk hrow; rw [hrk.out] at hrow)
      | (refine w_nstore (u := .int .i64 (wrap64 (d.fee + 3))) (i := k) (j := 1) _ _ rfl rfl rfl rfl rfl rfl (by kernel_rfl) o10.own hgk hkr.out (by omega) ?_; intro w11 hm hn; rw [hset.out] at hn; have o10' : OwnT wc.heap.size w11 u10 (bump3 a.bk.txs (k + 1)) := ⟨hn, hraw2.out, o10.new⟩; replace f10 := f10.mod hm (n10.out _ hgk); replace hx8 := hm.after hx8 (fun i e => e ▸ o10.new _ hgk); replace o10 := o10'; clear hm hn hrow o10')
      | fail) <;> (try simp only [Act.put, List.setIfInBounds_toArray, List.set_cons_zero, List.set_cons_succ]))
    go_roundw
    case rel => exact ⟨k + 1, by go_num, by omega, f10, o10, hx8⟩
    case measure => simp [intOf]; omega

set_option maxRecDepth 100000 in
theorem msgApart_lifted (os : Os) (started : os.Started) (H : Type) (enc : TypeId × Value → H) :
    ReturnsInHanded {} Try.checked os 8 .any (Rows.msgApartSpec.pre6 enc Try.prog Try.f8 Rows.msgApartRow.domain false) (Rows.msgApartSpec.post enc Try.prog Try.f8 false true false false) := by
  refine law_lifted (s := Rows.msgApartSpec) (conds := Rows.msgApartRow.domain) Try.func8 (by kernel_rfl) rfl (fun H ds h => by
      rw [show Try.f8.params.size = 2 from rfl] at h
      match ds, h with
      | [d0, d1], _ => rfl) rfl rfl (by decide +kernel) os started H enc
    (ChangeSpec.witness6 (enc := enc) (C := Try.checked) false ⟨#[], #[.agg #[.int .i64 0, .int .i64 0, .int .i64 0, .int .i64 0, .int .i64 0, .int .i64 0, .int .i64 0, .int .i64 0, .int .i64 0, .int .i64 0, .int .i64 0, .int .i64 0, .slice none 0 0], .agg #[.int .i64 0, .int .i64 0, .int .i64 0, .int .i64 0, .int .i64 0, .int .i64 0, .int .i64 0, .int .i64 0, .int .i64 0, .int .i64 0, .int .i64 0, .int .i64 0, .slice none 0 0]], []⟩ 8 (by kernel_rfl) (by kernel_rfl) (by kernel_rfl) (by kernel_rfl)) ?_
  intro W base args ds p hval hA hsz _
  have hp : Try.f8.params.toList = [29, 29] := rfl
  rw [hp] at hA hsz
  obtain ⟨v0, v1, d0, d1, p0, p1, rfl, rfl, rfl, h0, h1⟩ := trodAll_two hA
  obtain ⟨row0, m0, rfl, n0, k0⟩ := arg_Msg hsz (j := 0) rfl rfl (hval 0 29 v0 rfl rfl) h0
  obtain ⟨row1, m1, rfl, n1, k1⟩ := arg_Msg hsz (j := 1) rfl rfl (hval 1 29 v1 rfl rfl) h1
  exact msgApart_law row0 m0 row1 m1 W k0 k1

theorem msgApart_holds : Rows.MsgApartSaid :=
  OpenClaim.holds_of_wide 8 Try.f8 rfl rfl rfl rfl rfl rfl rfl ⟨rfl, rfl, rfl, rfl, rfl⟩ rfl rfl rfl rfl rfl (by kernel_rfl) Try.func8 (by kernel_rfl)
    (of_decide_eq_true (by kernel_rfl)) (by unfold Func.isWrapper; first | (rw [if_pos (by decide +kernel)]; kernel_rfl) | (rw [if_neg (by decide +kernel)]; exact ⟨rfl, rfl⟩))
    (fun os started H enc _ => msgApart_lifted os started H enc)
#print axioms msgApart_holds

end Go.Proofs.Ytidhhmmjiflpjaa
