/- The statement MsgBack: a message is written and read back, bytes read are written back. No condition. -/
import Derived.Test.YtidhhmmjiflpjaaMgLa
import Derived.Test.YtidhhmmjiflpjaaFL
namespace Go.Proofs.Ytidhhmmjiflpjaa
set_option maxRecDepth 100000
open Go.RowKit Go.ChangeShapes Go.WideShapes Go.ChangeAt

theorem MsgD.Right.raw {d : MsgD} (h : d.Right) : I64 d.vl ∧ I64 d.bk.parent := by
  obtain ⟨_, _, _, _, h5, _⟩ := h.bound
  refine ⟨by unfold I64; omega, ?_⟩
  by_cases hk : d.kd = 1
  · rcases (h.bkOk hk).p with h1 | ⟨h1, _⟩
    · unfold I64; omega
    · have := MsgD.nm_le h1; unfold I64; omega
  · rw [h.bkNo hk]; unfold I64 BlkD.zero; simp
set_option maxRecDepth 100000 in
set_option maxHeartbeats 6400000 in
theorem msgBack_law (row : List Value) (a : MsgD) (vb : Value) (l : List Nat) (W : World) (ha : MsgR W row a) (hv : Byt W vb l) (hl256' : ∀ x ∈ l, x < 256) (hlen' : l.length ≤ 140737488351232) :
    Calls Try.prog 6 #[.agg row.toArray, vb] W fun e w' => e = .returned (.bool true) ∧ Ext W w' := by
  obtain ⟨⟨u, rfl, r1⟩, hraw⟩ := ha
  refine calls_keep ?_
  have hp := hide_ (show I64 a.vl ∧ I64 a.bk.parent from ⟨hraw.vl, hraw.bk.parent⟩)
  replace r1 := hide_ r1
  have hl256 := hide_ hl256'
  have hlen := hide_ (show l.length ≤ 140737488355328 from by omega)
  have hbc := hide_ (show ([] : List Nat).length + l.length ≤ 140737488355328 from by simp; omega)
  have hself := hide_ (decide_eq_true (rfl : a = a))
  have hself0 := hide_ (decide_eq_true (rfl : MsgD.zero = MsgD.zero))
  clear hraw hl256' hlen'
  by_cases h1 : a.Right
  rotate_left
  · have hra := hide_ h1
    have hdec := hide_ (decide_eq_false h1)
    clear h1
    cases hr0 : rdMsg l with
    | none =>
      have hrl := hide_ hr0
      clear hr0
      go_enter Try.func6, Try.ntmps6
      go_wp2_with ((first
        | go_big_skip
        | (have ce := r9; clear ce; go_at_call 14; refine (MSame_any (a := MsgD.zero) (b := MsgD.zero) (u1 := u9) (u2 := .slice none 0 0) r9 (OwnT.nil 0 _).recs).mono ?_; rintro e w16 ⟨rfl, hx⟩; rw [hself0.out]; replace hX := hX.trans hx; clear hx)
        | (have ce := b43; clear ce; go_at_call 17; refine (MRead_any hl256.out hlen.out b43).mono ?_; rintro e w13 ⟨u9, rfl, hx, o9⟩; rw [hrl.out] at o9 ⊢; have r9 : Recs 2 TxR _ u9 MsgD.zero.bk.txs := o9.recs; clear b43 o9; replace hX := hX.trans hx; clear hx)
        | ((with_reducible refine at_box ?_); refine w_box _ (mRow a u) rfl rfl rfl rfl ?_; intro g2 w1 hg2 hX f2)
        | (go_at_call 9; refine (msgAlive_any _).mono ?_; rintro e w2 ⟨rfl, hx⟩; (try replace f2 := f2.ext hx); (try replace f7 := f7.ext hx); (try replace r7 := r7.ext TxR.stays hx); (try replace r9 := r9.ext TxR.stays hx); (try replace f9 := f9.ext hx); replace hX := hX.trans hx; clear hx)
        | (go_at_call 10; refine (MBytes_no (d := a) (u := u) hra.out (r1.out.ext TxR.stays hX) hp.out.1 hp.out.2).mono ?_; rintro e w3 ⟨rfl, hx⟩; (try replace f2 := f2.ext hx); (try replace f7 := f7.ext hx); (try replace r7 := r7.ext TxR.stays hx); (try replace r9 := r9.ext TxR.stays hx); (try replace f9 := f9.ext hx); replace hX := hX.trans hx; clear hx)
        | (go_at_call 12; refine (MRight_any (d := a) (u := u) (r1.out.ext TxR.stays hX) hp.out.1 hp.out.2).mono ?_; rintro e w4 ⟨rfl, hx⟩; rw [hdec.out]; (try replace b5 := b5.ext hx); (try replace f2 := f2.ext hx); (try replace f7 := f7.ext hx); (try replace r7 := r7.ext TxR.stays hx); (try replace r9 := r9.ext TxR.stays hx); (try replace f9 := f9.ext hx); replace hX := hX.trans hx; clear hx)
        | ((with_reducible refine at_load ?_); (try refine w_yes _ _ _ rfl rfl rfl ?_); refine w_loadN Try.stMsg (.tmp 2) (mRow a u) rfl rfl rfl f2 rfl mself_at ?_)
        | ((with_reducible refine at_lit ?_); refine w_bempty (o := ⟨some 41, _, _, _, _, _⟩) rfl rfl ?_; intro v41 wn B hB1 hBl hxn o1; have hxb := hxn; clear hxn)
        | ((with_reducible refine at_bi ?_); refine appb (o := ⟨some 43, _, _, _, _, _⟩) _ _ rfl rfl rfl rfl o1 ((hv.ext hX).ext hxb) hbc.out hBl ?_; intro v43 wa o2 hba hga; rw [List.nil_append] at o2; have hx := hxb.trans' (hba.mono hB1); have b43 := o2.byt; clear o1 hba hga hxb hBl hB1 o2; replace hX := hX.trans hx; clear hx)
        | ((with_reducible refine at_alloc ?_); refine w_agalloc (o := ⟨some 9, _, _, _, _, _⟩) Try.agMsg rfl rfl ?_; intro g9 w14 hg9 hx9 f9)
        | ((with_reducible refine at_store ?_); refine w_agput Try.agMsg (us := mRow MsgD.zero u9) (.tmp 9) _ rfl rfl rfl rfl rfl f9 rfl rfl (m_one r9.one') ?_; intro w15 hm f9'; replace f9 := f9'; have hx := hm.after hx9 (fun i e => e ▸ hg9); replace r9 := r9.ext TxR.stays hx; replace hX := hX.trans hx; clear hm f9' hx9 hg9 hx)
        | ((with_reducible refine at_load ?_); (try refine w_yes _ _ _ rfl rfl rfl ?_); refine w_loadN Try.stMsg (.tmp 9) (mRow MsgD.zero u9) rfl rfl rfl f9 rfl mself_at ?_)
        | ((with_reducible refine at_sbuild ?_); refine w_mbuild (mRow MsgD.zero (.slice none 0 0)) rfl rfl rfl (by intro p hp; simp at hp) ?_)
        | fail) <;> (try simp only [Act.put, List.setIfInBounds_toArray, List.set_cons_zero, List.set_cons_succ]))
      go_ret
      exact Keep.intro ⟨rfl, hX⟩
    | some y =>
      have hrl := hide_ hr0
      obtain ⟨hy0, hyl0⟩ := (rdMsg_iff hl256.out y).1 hr0
      have hy := hide_ hy0
      have hyl := hide_ hyl0.symm
      have hpy := hide_ hy0.raw
      clear hr0 hy0 hyl0
      go_enter Try.func6, Try.ntmps6
      go_wp2_with ((first
        | go_big_skip
        | (have ce := r9; clear ce; go_at_call 10; refine (MBytes_yes (d := y) (u := u9) hy.out r9 hpy.out.1 hpy.out.2).mono ?_; rintro e w17 ⟨v11, rfl, o11, hx⟩; rw [hyl.out] at o11; have b11 := o11.byt; clear o11; replace hX := hX.trans hx; clear hx)
        | (have ce := b43; clear ce; go_at_call 17; refine (MRead_any hl256.out hlen.out b43).mono ?_; rintro e w13 ⟨u9, rfl, hx, o9⟩; rw [hrl.out] at o9 ⊢; have r9 : Recs 2 TxR _ u9 y.bk.txs := o9.recs; clear b43 o9; replace hX := hX.trans hx; clear hx)
        | ((with_reducible refine at_box ?_); refine w_box _ (mRow a u) rfl rfl rfl rfl ?_; intro g2 w1 hg2 hX f2)
        | (go_at_call 9; refine (msgAlive_any _).mono ?_; rintro e w2 ⟨rfl, hx⟩; (try replace f2 := f2.ext hx); (try replace f7 := f7.ext hx); (try replace r7 := r7.ext TxR.stays hx); (try replace r9 := r9.ext TxR.stays hx); (try replace f9 := f9.ext hx); replace hX := hX.trans hx; clear hx)
        | (go_at_call 10; refine (MBytes_no (d := a) (u := u) hra.out (r1.out.ext TxR.stays hX) hp.out.1 hp.out.2).mono ?_; rintro e w3 ⟨rfl, hx⟩; (try replace f2 := f2.ext hx); (try replace f7 := f7.ext hx); (try replace r7 := r7.ext TxR.stays hx); (try replace r9 := r9.ext TxR.stays hx); (try replace f9 := f9.ext hx); replace hX := hX.trans hx; clear hx)
        | (go_at_call 12; refine (MRight_any (d := a) (u := u) (r1.out.ext TxR.stays hX) hp.out.1 hp.out.2).mono ?_; rintro e w4 ⟨rfl, hx⟩; rw [hdec.out]; (try replace b5 := b5.ext hx); (try replace f2 := f2.ext hx); (try replace f7 := f7.ext hx); (try replace r7 := r7.ext TxR.stays hx); (try replace r9 := r9.ext TxR.stays hx); (try replace f9 := f9.ext hx); replace hX := hX.trans hx; clear hx)
        | ((with_reducible refine at_load ?_); (try refine w_yes _ _ _ rfl rfl rfl ?_); refine w_loadN Try.stMsg (.tmp 2) (mRow a u) rfl rfl rfl f2 rfl mself_at ?_)
        | ((with_reducible refine at_lit ?_); refine w_bempty (o := ⟨some 41, _, _, _, _, _⟩) rfl rfl ?_; intro v41 wn B hB1 hBl hxn o1; have hxb := hxn; clear hxn)
        | ((with_reducible refine at_bi ?_); refine appb (o := ⟨some 43, _, _, _, _, _⟩) _ _ rfl rfl rfl rfl o1 ((hv.ext hX).ext hxb) hbc.out hBl ?_; intro v43 wa o2 hba hga; rw [List.nil_append] at o2; have hx := hxb.trans' (hba.mono hB1); have b43 := o2.byt; clear o1 hba hga hxb hBl hB1 o2; replace hX := hX.trans hx; clear hx)
        | ((with_reducible refine at_alloc ?_); refine w_agalloc (o := ⟨some 9, _, _, _, _, _⟩) Try.agMsg rfl rfl ?_; intro g9 w14 hg9 hx9 f9)
        | ((with_reducible refine at_store ?_); refine w_agput Try.agMsg (us := mRow y u9) (.tmp 9) _ rfl rfl rfl rfl rfl f9 rfl rfl (m_one r9.one') ?_; intro w15 hm f9'; replace f9 := f9'; have hx := hm.after hx9 (fun i e => e ▸ hg9); replace r9 := r9.ext TxR.stays hx; replace hX := hX.trans hx; clear hm f9' hx9 hg9 hx)
        | ((with_reducible refine at_load ?_); (try refine w_yes _ _ _ rfl rfl rfl ?_); refine w_loadN Try.stMsg (.tmp 9) (mRow y u9) rfl rfl rfl f9 rfl mself_at ?_)
        | ((with_reducible refine at_conv ?_); (try refine w_yes _ _ _ rfl rfl rfl ?_); refine w_str _ rfl rfl (v := v11) rfl b11 ?_)
        | ((with_reducible refine at_conv ?_); (try refine w_yes _ _ _ rfl rfl rfl ?_); refine w_str _ rfl rfl (v := vb) rfl (hv.ext hX) ?_)
        | fail) <;> (try simp only [Act.put, List.setIfInBounds_toArray, List.set_cons_zero, List.set_cons_succ]))
      go_ret
      exact Keep.intro ⟨rfl, hX⟩
  have hra := hide_ h1
  have hdec := hide_ (decide_eq_true h1)
  have hrd := hide_ ((rdMsg_iff a.bytes_lt a).2 ⟨h1, rfl⟩)
  have hbl := hide_ (show a.bytes.length ≤ 140737488355328 from by have := MsgD.bytes_len h1; omega)
  clear h1
  cases hr0 : rdMsg l with
  | none =>
    have hrl := hide_ hr0
    clear hr0
    go_enter Try.func6, Try.ntmps6
    go_wp2_with ((first
      | go_big_skip
      | (have ce := r9; clear ce; go_at_call 14; refine (MSame_any (a := MsgD.zero) (b := MsgD.zero) (u1 := u9) (u2 := .slice none 0 0) r9 (OwnT.nil 0 _).recs).mono ?_; rintro e w16 ⟨rfl, hx⟩; rw [hself0.out]; replace hX := hX.trans hx; clear hx)
      | (have ce := b43; clear ce; go_at_call 17; refine (MRead_any hl256.out hlen.out b43).mono ?_; rintro e w13 ⟨u9, rfl, hx, o9⟩; rw [hrl.out] at o9 ⊢; have r9 : Recs 2 TxR _ u9 MsgD.zero.bk.txs := o9.recs; clear b43 o9; replace hX := hX.trans hx; clear hx)
      | ((with_reducible refine at_box ?_); refine w_box _ (mRow a u) rfl rfl rfl rfl ?_; intro g2 w1 hg2 hX f2)
      | (go_at_call 9; refine (msgAlive_any _).mono ?_; rintro e w2 ⟨rfl, hx⟩; (try replace f2 := f2.ext hx); (try replace f7 := f7.ext hx); (try replace r7 := r7.ext TxR.stays hx); (try replace r9 := r9.ext TxR.stays hx); (try replace f9 := f9.ext hx); replace hX := hX.trans hx; clear hx)
      | (go_at_call 10; refine (MBytes_yes (d := a) (u := u) hra.out (r1.out.ext TxR.stays hX) hp.out.1 hp.out.2).mono ?_; rintro e w3 ⟨v5, rfl, o5, hx⟩; have b5 := o5.byt; clear o5; (try replace f2 := f2.ext hx); (try replace f7 := f7.ext hx); (try replace r7 := r7.ext TxR.stays hx); (try replace r9 := r9.ext TxR.stays hx); (try replace f9 := f9.ext hx); replace hX := hX.trans hx; clear hx)
      | (go_at_call 12; refine (MRight_any (d := a) (u := u) (r1.out.ext TxR.stays hX) hp.out.1 hp.out.2).mono ?_; rintro e w4 ⟨rfl, hx⟩; rw [hdec.out]; (try replace b5 := b5.ext hx); (try replace f2 := f2.ext hx); (try replace f7 := f7.ext hx); (try replace r7 := r7.ext TxR.stays hx); (try replace r9 := r9.ext TxR.stays hx); (try replace f9 := f9.ext hx); replace hX := hX.trans hx; clear hx)
      | (have ce := b5; clear ce; go_at_call 17; refine (MRead_any a.bytes_lt hbl.out b5).mono ?_; rintro e w5 ⟨u7, rfl, hx, o7⟩; rw [hrd.out] at o7 ⊢; have r7 : Recs 2 TxR _ u7 a.bk.txs := o7.recs; clear b5 o7; replace f2 := f2.ext hx; replace hX := hX.trans hx; clear hx)
      | (have ce := r7; clear ce; go_at_call 14; refine (MSame_any (a := a) (b := a) (u1 := u7) (u2 := u) r7 (r1.out.ext TxR.stays hX)).mono ?_; rintro e w8 ⟨rfl, hx⟩; rw [hself.out]; (try replace f2 := f2.ext hx); (try replace f7 := f7.ext hx); (try replace r7 := r7.ext TxR.stays hx); (try replace r9 := r9.ext TxR.stays hx); (try replace f9 := f9.ext hx); replace hX := hX.trans hx; clear hx; clear r7)
      | ((with_reducible refine at_load ?_); (try refine w_yes _ _ _ rfl rfl rfl ?_); refine w_loadN Try.stMsg (.tmp 2) (mRow a u) rfl rfl rfl f2 rfl mself_at ?_)
      | ((with_reducible refine at_alloc ?_); refine w_agalloc (o := ⟨some 7, _, _, _, _, _⟩) Try.agMsg rfl rfl ?_; intro g7 w6 hg7 hx7 f7)
      | ((with_reducible refine at_store ?_); refine w_agput Try.agMsg (us := mRow a u7) (.tmp 7) _ rfl rfl rfl rfl rfl f7 rfl rfl (m_one r7.one') ?_; intro w7 hm f7'; replace f7 := f7'; have hx := hm.after hx7 (fun i e => e ▸ hg7); replace r7 := r7.ext TxR.stays hx; replace f2 := f2.ext hx; replace hX := hX.trans hx; clear hm f7' hx7 hg7 hx)
      | ((with_reducible refine at_load ?_); (try refine w_yes _ _ _ rfl rfl rfl ?_); refine w_loadN Try.stMsg (.tmp 7) (mRow a u7) rfl rfl rfl f7 rfl mself_at ?_)
      | ((with_reducible refine at_lit ?_); refine w_bempty (o := ⟨some 41, _, _, _, _, _⟩) rfl rfl ?_; intro v41 wn B hB1 hBl hxn o1; have hxb := hxn; clear hxn)
      | ((with_reducible refine at_bi ?_); refine appb (o := ⟨some 43, _, _, _, _, _⟩) _ _ rfl rfl rfl rfl o1 ((hv.ext hX).ext hxb) hbc.out hBl ?_; intro v43 wa o2 hba hga; rw [List.nil_append] at o2; have hx := hxb.trans' (hba.mono hB1); have b43 := o2.byt; clear o1 hba hga hxb hBl hB1 o2; replace hX := hX.trans hx; clear hx)
      | ((with_reducible refine at_alloc ?_); refine w_agalloc (o := ⟨some 9, _, _, _, _, _⟩) Try.agMsg rfl rfl ?_; intro g9 w14 hg9 hx9 f9)
      | ((with_reducible refine at_store ?_); refine w_agput Try.agMsg (us := mRow MsgD.zero u9) (.tmp 9) _ rfl rfl rfl rfl rfl f9 rfl rfl (m_one r9.one') ?_; intro w15 hm f9'; replace f9 := f9'; have hx := hm.after hx9 (fun i e => e ▸ hg9); replace r9 := r9.ext TxR.stays hx; replace hX := hX.trans hx; clear hm f9' hx9 hg9 hx)
      | ((with_reducible refine at_load ?_); (try refine w_yes _ _ _ rfl rfl rfl ?_); refine w_loadN Try.stMsg (.tmp 9) (mRow MsgD.zero u9) rfl rfl rfl f9 rfl mself_at ?_)
      | ((with_reducible refine at_sbuild ?_); refine w_mbuild (mRow MsgD.zero (.slice none 0 0)) rfl rfl rfl (by intro p hp; simp at hp) ?_)
      | fail) <;> (try simp only [Act.put, List.setIfInBounds_toArray, List.set_cons_zero, List.set_cons_succ]))
    go_ret
    exact Keep.intro ⟨rfl, hX⟩
  | some y =>
    have hrl := hide_ hr0
    obtain ⟨hy0, hyl0⟩ := (rdMsg_iff hl256.out y).1 hr0
    have hy := hide_ hy0
    have hyl := hide_ hyl0.symm
    have hpy := hide_ hy0.raw
    clear hr0 hy0 hyl0
    go_enter Try.func6, Try.ntmps6
    go_wp2_with ((first
      | go_big_skip
      | (have ce := r9; clear ce; go_at_call 10; refine (MBytes_yes (d := y) (u := u9) hy.out r9 hpy.out.1 hpy.out.2).mono ?_; rintro e w17 ⟨v11, rfl, o11, hx⟩; rw [hyl.out] at o11; have b11 := o11.byt; clear o11; replace hX := hX.trans hx; clear hx)
      | (have ce := b43; clear ce; go_at_call 17; refine (MRead_any hl256.out hlen.out b43).mono ?_; rintro e w13 ⟨u9, rfl, hx, o9⟩; rw [hrl.out] at o9 ⊢; have r9 : Recs 2 TxR _ u9 y.bk.txs := o9.recs; clear b43 o9; replace hX := hX.trans hx; clear hx)
      | ((with_reducible refine at_box ?_); refine w_box _ (mRow a u) rfl rfl rfl rfl ?_; intro g2 w1 hg2 hX f2)
      | (go_at_call 9; refine (msgAlive_any _).mono ?_; rintro e w2 ⟨rfl, hx⟩; (try replace f2 := f2.ext hx); (try replace f7 := f7.ext hx); (try replace r7 := r7.ext TxR.stays hx); (try replace r9 := r9.ext TxR.stays hx); (try replace f9 := f9.ext hx); replace hX := hX.trans hx; clear hx)
      | (go_at_call 10; refine (MBytes_yes (d := a) (u := u) hra.out (r1.out.ext TxR.stays hX) hp.out.1 hp.out.2).mono ?_; rintro e w3 ⟨v5, rfl, o5, hx⟩; have b5 := o5.byt; clear o5; (try replace f2 := f2.ext hx); (try replace f7 := f7.ext hx); (try replace r7 := r7.ext TxR.stays hx); (try replace r9 := r9.ext TxR.stays hx); (try replace f9 := f9.ext hx); replace hX := hX.trans hx; clear hx)
      | (go_at_call 12; refine (MRight_any (d := a) (u := u) (r1.out.ext TxR.stays hX) hp.out.1 hp.out.2).mono ?_; rintro e w4 ⟨rfl, hx⟩; rw [hdec.out]; (try replace b5 := b5.ext hx); (try replace f2 := f2.ext hx); (try replace f7 := f7.ext hx); (try replace r7 := r7.ext TxR.stays hx); (try replace r9 := r9.ext TxR.stays hx); (try replace f9 := f9.ext hx); replace hX := hX.trans hx; clear hx)
      | (have ce := b5; clear ce; go_at_call 17; refine (MRead_any a.bytes_lt hbl.out b5).mono ?_; rintro e w5 ⟨u7, rfl, hx, o7⟩; rw [hrd.out] at o7 ⊢; have r7 : Recs 2 TxR _ u7 a.bk.txs := o7.recs; clear b5 o7; replace f2 := f2.ext hx; replace hX := hX.trans hx; clear hx)
      | (have ce := r7; clear ce; go_at_call 14; refine (MSame_any (a := a) (b := a) (u1 := u7) (u2 := u) r7 (r1.out.ext TxR.stays hX)).mono ?_; rintro e w8 ⟨rfl, hx⟩; rw [hself.out]; (try replace f2 := f2.ext hx); (try replace f7 := f7.ext hx); (try replace r7 := r7.ext TxR.stays hx); (try replace r9 := r9.ext TxR.stays hx); (try replace f9 := f9.ext hx); replace hX := hX.trans hx; clear hx; clear r7)
      | ((with_reducible refine at_load ?_); (try refine w_yes _ _ _ rfl rfl rfl ?_); refine w_loadN Try.stMsg (.tmp 2) (mRow a u) rfl rfl rfl f2 rfl mself_at ?_)
      | ((with_reducible refine at_alloc ?_); refine w_agalloc (o := ⟨some 7, _, _, _, _, _⟩) Try.agMsg rfl rfl ?_; intro g7 w6 hg7 hx7 f7)
      | ((with_reducible refine at_store ?_); refine w_agput Try.agMsg (us := mRow a u7) (.tmp 7) _ rfl rfl rfl rfl rfl f7 rfl rfl (m_one r7.one') ?_; intro w7 hm f7'; replace f7 := f7'; have hx := hm.after hx7 (fun i e => e ▸ hg7); replace r7 := r7.ext TxR.stays hx; replace f2 := f2.ext hx; replace hX := hX.trans hx; clear hm f7' hx7 hg7 hx)
      | ((with_reducible refine at_load ?_); (try refine w_yes _ _ _ rfl rfl rfl ?_); refine w_loadN Try.stMsg (.tmp 7) (mRow a u7) rfl rfl rfl f7 rfl mself_at ?_)
      | ((with_reducible refine at_lit ?_); refine w_bempty (o := ⟨some 41, _, _, _, _, _⟩) rfl rfl ?_; intro v41 wn B hB1 hBl hxn o1; have hxb := hxn; clear hxn)
      | ((with_reducible refine at_bi ?_); refine appb (o := ⟨some 43, _, _, _, _, _⟩) _ _ rfl rfl rfl rfl o1 ((hv.ext hX).ext hxb) hbc.out hBl ?_; intro v43 wa o2 hba hga; rw [List.nil_append] at o2; have hx := hxb.trans' (hba.mono hB1); have b43 := o2.byt; clear o1 hba hga hxb hBl hB1 o2; replace hX := hX.trans hx; clear hx)
      | ((with_reducible refine at_alloc ?_); refine w_agalloc (o := ⟨some 9, _, _, _, _, _⟩) Try.agMsg rfl rfl ?_; intro g9 w14 hg9 hx9 f9)
      | ((with_reducible refine at_store ?_); refine w_agput Try.agMsg (us := mRow y u9) (.tmp 9) _ rfl rfl rfl rfl rfl f9 rfl rfl (m_one r9.one') ?_; intro w15 hm f9'; replace f9 := f9'; have hx := hm.after hx9 (fun i e => e ▸ hg9); replace r9 := r9.ext TxR.stays hx; replace hX := hX.trans hx; clear hm f9' hx9 hg9 hx)
      | ((with_reducible refine at_load ?_); (try refine w_yes _ _ _ rfl rfl rfl ?_); refine w_loadN Try.stMsg (.tmp 9) (mRow y u9) rfl rfl rfl f9 rfl mself_at ?_)
      | ((with_reducible refine at_conv ?_); (try refine w_yes _ _ _ rfl rfl rfl ?_); refine w_str _ rfl rfl (v := v11) rfl b11 ?_)
      | ((with_reducible refine at_conv ?_); (try refine w_yes _ _ _ rfl rfl rfl ?_); refine w_str _ rfl rfl (v := vb) rfl (hv.ext hX) ?_)
      | fail) <;> (try simp only [Act.put, List.setIfInBounds_toArray, List.set_cons_zero, List.set_cons_succ]))
    go_ret
    exact Keep.intro ⟨rfl, hX⟩

set_option maxRecDepth 100000 in
theorem msgBack_lifted (os : Os) (started : os.Started) (H : Type) (enc : TypeId × Value → H) :
    ReturnsInHanded {} Try.checked os 6 .any (Rows.msgBackSpec.pre6 enc Try.prog Try.f6 Rows.msgBackRow.domain false) (Rows.msgBackSpec.post enc Try.prog Try.f6 false true false false) := by
  refine law_lifted (s := Rows.msgBackSpec) (conds := Rows.msgBackRow.domain) Try.func6 (by kernel_rfl) rfl (fun H ds h => by
      rw [show Try.f6.params.size = 2 from rfl] at h
      match ds, h with
      | [d0, d1], _ => rfl) rfl rfl (by decide +kernel) os started H enc
    (ChangeSpec.witness6 (enc := enc) (C := Try.checked) false ⟨#[], #[.agg #[.int .i64 0, .int .i64 0, .int .i64 0, .int .i64 0, .int .i64 0, .int .i64 0, .int .i64 0, .int .i64 0, .int .i64 0, .int .i64 0, .int .i64 0, .int .i64 0, .slice none 0 0], .slice none 0 0], []⟩ 8 (by kernel_rfl) (by kernel_rfl) (by kernel_rfl) (by kernel_rfl)) ?_
  intro W base args ds p hval hA hsz _
  have hp : Try.f6.params.toList = [29, 30] := rfl
  rw [hp] at hA hsz
  obtain ⟨v0, v1, d0, d1, p0, p1, rfl, rfl, rfl, h0, h1⟩ := trodAll_two hA
  obtain ⟨row0, m0, rfl, n0, k0⟩ := arg_Msg hsz (j := 0) rfl rfl (hval 0 29 v0 rfl rfl) h0
  obtain ⟨l1, a1, b1, c1⟩ := arg_bytes hsz (j := 1) rfl rfl (hval 1 30 v1 rfl rfl) h1
  exact msgBack_law row0 m0 v1 l1 W k0 a1 b1 c1

theorem msgBack_holds : Rows.MsgBackSaid :=
  OpenClaim.holds_of_wide 6 Try.f6 rfl rfl rfl rfl rfl rfl rfl ⟨rfl, rfl, rfl, rfl, rfl⟩ rfl rfl rfl rfl rfl (by kernel_rfl) Try.func6 (by kernel_rfl)
    (of_decide_eq_true (by kernel_rfl)) (by unfold Func.isWrapper; first | (rw [if_pos (by decide +kernel)]; kernel_rfl) | (rw [if_neg (by decide +kernel)]; exact ⟨rfl, rfl⟩))
    (fun os started H enc _ => msgBack_lifted os started H enc)
#print axioms msgBack_holds

end Go.Proofs.Ytidhhmmjiflpjaa
