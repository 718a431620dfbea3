/- The statement MsgMarks: a message in which another says the same under the first one's mark isn't read, nor one whose mark is another number. No condition. -/
import Derived.Test.YtidhhmmjiflpjaaMgLa
import Derived.Test.YtidhhmmjiflpjaaFL
import Derived.Test.YtidhhmmjiflpjaaArgU
namespace Go.Proofs.Ytidhhmmjiflpjaa
set_option maxRecDepth 100000
open Go.RowKit Go.ChangeShapes Go.WideShapes Go.ChangeAt

theorem refNum_P {P : Int} {x : Nat} (hP : ((x : Nat) : Int) = P) (hx : W64 x) (w : World) : Calls Try.prog 20 #[.int .u64 P] w fun e w' => ∃ v', e = .returned v' ∧ OwnB w.heap.size w' v' (numL x) ∧ Ext w w' := by
  subst hP; exact refNum_any x w hx
theorem rd_own (d : MsgD) : (rd d.bytes).1 = d.mark.toNat ∧ rdErr d.bytes = 0 ∧ rdRest d.bytes = d.body :=
  ⟨by show (rd (numL d.mark.toNat ++ d.body)).1 = _; rw [rd_app d.mark_w64], rdErr_app d.mark_w64 _, rdRest_app d.mark_w64 _⟩
theorem lt_app {n : Nat} {l : List Nat} (h : ∀ x ∈ l, x < 256) : ∀ x ∈ numL n ++ l, x < 256 := fun x hx => by
  rcases List.mem_append.1 hx with h1 | h1
  · exact numL_lt256 _ x h1
  · exact h x h1
set_option maxRecDepth 100000 in
set_option maxHeartbeats 6400000 in
theorem msgMarks_law (row : List Value) (a : MsgD) (n : Int) (k : Nat) (W : World) (ha : MsgR W row a) (_hn : I64 n) (hk : k < 18446744073709551616) :
    Calls Try.prog 7 #[.agg row.toArray, .int .i64 n, .int .u64 (k : Int)] W fun e w' => e = .returned (.bool true) ∧ Ext W w' := by
  obtain ⟨⟨u, rfl, r1⟩, hraw⟩ := ha
  refine calls_keep ?_
  obtain ⟨b, hb0⟩ : ∃ b : MsgD, b = ⟨a.kd, n, a.ix, a.vw, a.vl, a.pr, a.tx, a.bk⟩ := ⟨_, rfl⟩
  have hp := hide_ (show I64 a.vl ∧ I64 a.bk.parent from ⟨hraw.vl, hraw.bk.parent⟩)
  have hpb := hide_ (show I64 b.vl ∧ I64 b.bk.parent from by rw [hb0]; exact hp.out)
  have hrb := hide_ (show Recs 2 TxR W u b.bk.txs from by rw [hb0]; exact r1)
  have hb := hide_ hb0
  have hbf : b.fm = n := by rw [hb0]
  obtain ⟨M, hM0⟩ : ∃ M : Int, ((k : Nat) : Int) = M := ⟨_, rfl⟩
  rw [hM0]
  replace r1 := hide_ r1
  clear hraw hb0
  by_cases h1 : a.Right
  rotate_left
  · have hda := hide_ (decide_eq_false h1)
    clear h1 hM0 hbf hk
    go_enter Try.func7, Try.ntmps7
    go_wp2_with ((first
      | go_big_skip
      | (go_at_call 9; refine (msgAlive_any _).mono ?_; rintro e w2 ⟨rfl, hx⟩; (try replace f3 := f3.ext hx); (try replace f7 := f7.ext hx); (try replace b8 := b8.ext hx); (try replace b10 := b10.ext hx); (try replace b13 := b13.ext hx); (try replace b16 := b16.ext hx); replace hX := hX.trans hx; clear hx)
      | (go_at_call 12; ((with_reducible refine (MRight_any (d := a) (u := u) (r1.out.ext TxR.stays hX) hp.out.1 hp.out.2).mono ?_); rintro e w4 ⟨rfl, hx⟩; rw [hda.out]; (try replace f3 := f3.ext hx); (try replace f7 := f7.ext hx); (try replace b8 := b8.ext hx); (try replace b10 := b10.ext hx); (try replace b13 := b13.ext hx); (try replace b16 := b16.ext hx); replace hX := hX.trans hx; clear hx))
      | ((with_reducible refine at_box ?_); refine w_box _ (mRow a u) rfl rfl rfl rfl ?_; intro g3 w1 hg3 hX f3)
      | ((with_reducible refine at_alloc ?_); refine w_agalloc (o := ⟨some 7, _, _, _, _, _⟩) Try.agMsg rfl rfl ?_; intro g7 w6 hg7 hx7 f7)
      | ((with_reducible refine at_store ?_); refine w_agput Try.agMsg (us := mRow a u) (.tmp 7) _ rfl rfl rfl rfl rfl f7 rfl rfl (m_one r1.out.one') ?_; intro w7 hm f7'; replace f7 := f7'; have hx := hm.after hx7 (fun i e => e ▸ hg7); have hne := hide_ (show ¬ g3 = g7 from (by have := f3.lt; omega)); replace f3 := f3.ext hx; replace hg7 := Nat.le_trans hX.size hg7; replace hX := hX.trans hx; clear hm f7' hx7 hx)
      | ((with_reducible refine at_field ?_); (try refine w_yes _ _ _ rfl rfl rfl ?_); refine w_mfield _ _ _ rfl rfl rfl (by omega) ?_)
      | ((with_reducible refine at_store ?_); refine w_fstore (u := .int .i64 n) _ _ rfl rfl rfl rfl rfl f7 (show 1 < 13 from by decide) rfl rfl (by kernel_rfl) ?_; intro w9 hm f9; replace f7 : Fs w9 g7 (mRow b u) := (by rw [hb.out]; exact f9); replace f3 := f3.mod hm hne.out; replace hX := hm.after hX (fun i e => e ▸ hg7); clear hm f9)
      | ((with_reducible refine at_load ?_); (try refine w_yes _ _ _ rfl rfl rfl ?_); refine w_loadN Try.stMsg (.tmp 3) (mRow a u) rfl rfl rfl f3 rfl mself_at ?_)
      | fail) <;> (try simp only [Act.put, List.setIfInBounds_toArray, List.set_cons_zero, List.set_cons_succ]))
    go_ret
    exact Keep.intro ⟨rfl, hX⟩
  have hda := hide_ (decide_eq_true h1)
  by_cases h2 : b.Right
  rotate_left
  · have hdb := hide_ (decide_eq_false h2)
    clear h1 h2 hM0 hbf hk
    go_enter Try.func7, Try.ntmps7
    go_wp2_with ((first
      | go_big_skip
      | (go_at_call 9; refine (msgAlive_any _).mono ?_; rintro e w2 ⟨rfl, hx⟩; (try replace f3 := f3.ext hx); (try replace f7 := f7.ext hx); (try replace b8 := b8.ext hx); (try replace b10 := b10.ext hx); (try replace b13 := b13.ext hx); (try replace b16 := b16.ext hx); replace hX := hX.trans hx; clear hx)
      | (go_at_call 12; ((with_reducible refine (MRight_any (d := a) (u := u) (r1.out.ext TxR.stays hX) hp.out.1 hp.out.2).mono ?_); rintro e w4 ⟨rfl, hx⟩; rw [hda.out]; (try replace f3 := f3.ext hx); (try replace f7 := f7.ext hx); (try replace b8 := b8.ext hx); (try replace b10 := b10.ext hx); (try replace b13 := b13.ext hx); (try replace b16 := b16.ext hx); replace hX := hX.trans hx; clear hx))
      | (go_at_call 12; ((with_reducible refine (MRight_any (d := b) (u := u) (hrb.out.ext TxR.stays hX) hpb.out.1 hpb.out.2).mono ?_); rintro e w4 ⟨rfl, hx⟩; rw [hdb.out]; (try replace f3 := f3.ext hx); (try replace f7 := f7.ext hx); (try replace b8 := b8.ext hx); (try replace b10 := b10.ext hx); (try replace b13 := b13.ext hx); (try replace b16 := b16.ext hx); replace hX := hX.trans hx; clear hx))
      | ((with_reducible refine at_box ?_); refine w_box _ (mRow a u) rfl rfl rfl rfl ?_; intro g3 w1 hg3 hX f3)
      | ((with_reducible refine at_alloc ?_); refine w_agalloc (o := ⟨some 7, _, _, _, _, _⟩) Try.agMsg rfl rfl ?_; intro g7 w6 hg7 hx7 f7)
      | ((with_reducible refine at_store ?_); refine w_agput Try.agMsg (us := mRow a u) (.tmp 7) _ rfl rfl rfl rfl rfl f7 rfl rfl (m_one r1.out.one') ?_; intro w7 hm f7'; replace f7 := f7'; have hx := hm.after hx7 (fun i e => e ▸ hg7); have hne := hide_ (show ¬ g3 = g7 from (by have := f3.lt; omega)); replace f3 := f3.ext hx; replace hg7 := Nat.le_trans hX.size hg7; replace hX := hX.trans hx; clear hm f7' hx7 hx)
      | ((with_reducible refine at_field ?_); (try refine w_yes _ _ _ rfl rfl rfl ?_); refine w_mfield _ _ _ rfl rfl rfl (by omega) ?_)
      | ((with_reducible refine at_store ?_); refine w_fstore (u := .int .i64 n) _ _ rfl rfl rfl rfl rfl f7 (show 1 < 13 from by decide) rfl rfl (by kernel_rfl) ?_; intro w9 hm f9; replace f7 : Fs w9 g7 (mRow b u) := (by rw [hb.out]; exact f9); replace f3 := f3.mod hm hne.out; replace hX := hm.after hX (fun i e => e ▸ hg7); clear hm f9)
      | ((with_reducible refine at_load ?_); (try refine w_yes _ _ _ rfl rfl rfl ?_); refine w_loadN Try.stMsg (.tmp 3) (mRow a u) rfl rfl rfl f3 rfl mself_at ?_)
      | ((with_reducible refine at_load ?_); (try refine w_yes _ _ _ rfl rfl rfl ?_); refine w_loadN Try.stMsg (.tmp 7) (mRow b u) rfl rfl rfl f7 rfl mself_at ?_)
      | fail) <;> (try simp only [Act.put, List.setIfInBounds_toArray, List.set_cons_zero, List.set_cons_succ]))
    go_ret
    exact Keep.intro ⟨rfl, hX⟩
  have hdb := hide_ (decide_eq_true h2)
  by_cases h3 : n = a.fm
  · have t3 : (n == a.fm) = true := by simpa using h3
    clear h1 h2 h3 hM0 hbf hk
    go_enter Try.func7, Try.ntmps7
    go_wp2_with ((first
      | go_big_skip
      | (go_at_call 9; refine (msgAlive_any _).mono ?_; rintro e w2 ⟨rfl, hx⟩; (try replace f3 := f3.ext hx); (try replace f7 := f7.ext hx); (try replace b8 := b8.ext hx); (try replace b10 := b10.ext hx); (try replace b13 := b13.ext hx); (try replace b16 := b16.ext hx); replace hX := hX.trans hx; clear hx)
      | (go_at_call 12; ((with_reducible refine (MRight_any (d := a) (u := u) (r1.out.ext TxR.stays hX) hp.out.1 hp.out.2).mono ?_); rintro e w4 ⟨rfl, hx⟩; rw [hda.out]; (try replace f3 := f3.ext hx); (try replace f7 := f7.ext hx); (try replace b8 := b8.ext hx); (try replace b10 := b10.ext hx); (try replace b13 := b13.ext hx); (try replace b16 := b16.ext hx); replace hX := hX.trans hx; clear hx))
      | (go_at_call 12; ((with_reducible refine (MRight_any (d := b) (u := u) (hrb.out.ext TxR.stays hX) hpb.out.1 hpb.out.2).mono ?_); rintro e w4 ⟨rfl, hx⟩; rw [hdb.out]; (try replace f3 := f3.ext hx); (try replace f7 := f7.ext hx); (try replace b8 := b8.ext hx); (try replace b10 := b10.ext hx); (try replace b13 := b13.ext hx); (try replace b16 := b16.ext hx); replace hX := hX.trans hx; clear hx))
      | ((with_reducible refine at_box ?_); refine w_box _ (mRow a u) rfl rfl rfl rfl ?_; intro g3 w1 hg3 hX f3)
      | ((with_reducible refine at_alloc ?_); refine w_agalloc (o := ⟨some 7, _, _, _, _, _⟩) Try.agMsg rfl rfl ?_; intro g7 w6 hg7 hx7 f7)
      | ((with_reducible refine at_store ?_); refine w_agput Try.agMsg (us := mRow a u) (.tmp 7) _ rfl rfl rfl rfl rfl f7 rfl rfl (m_one r1.out.one') ?_; intro w7 hm f7'; replace f7 := f7'; have hx := hm.after hx7 (fun i e => e ▸ hg7); have hne := hide_ (show ¬ g3 = g7 from (by have := f3.lt; omega)); replace f3 := f3.ext hx; replace hg7 := Nat.le_trans hX.size hg7; replace hX := hX.trans hx; clear hm f7' hx7 hx)
      | ((with_reducible refine at_field ?_); (try refine w_yes _ _ _ rfl rfl rfl ?_); refine w_mfield _ _ _ rfl rfl rfl (by omega) ?_)
      | ((with_reducible refine at_store ?_); refine w_fstore (u := .int .i64 n) _ _ rfl rfl rfl rfl rfl f7 (show 1 < 13 from by decide) rfl rfl (by kernel_rfl) ?_; intro w9 hm f9; replace f7 : Fs w9 g7 (mRow b u) := (by rw [hb.out]; exact f9); replace f3 := f3.mod hm hne.out; replace hX := hm.after hX (fun i e => e ▸ hg7); clear hm f9)
      | ((with_reducible refine at_load ?_); (try refine w_yes _ _ _ rfl rfl rfl ?_); refine w_loadN Try.stMsg (.tmp 3) (mRow a u) rfl rfl rfl f3 rfl mself_at ?_)
      | ((with_reducible refine at_load ?_); (try refine w_yes _ _ _ rfl rfl rfl ?_); refine w_loadN Try.stMsg (.tmp 7) (mRow b u) rfl rfl rfl f7 rfl mself_at ?_)
      | ((with_reducible refine at_load ?_); (try refine w_yes _ _ _ rfl rfl rfl ?_); refine w_fload _ rfl rfl rfl f3 rfl (agg_of (by kernel_rfl)) ?_)
      | fail) <;> (try simp only [Act.put, List.setIfInBounds_toArray, List.set_cons_zero, List.set_cons_succ]))
    go_ret
    exact Keep.intro ⟨rfl, hX⟩
  have t3 : (n == a.fm) = false := by simpa using h3
  have hne0 : a.body ≠ b.body := fun e => h3 (by have := MsgD.body_inj h1 h2 e; rw [← hbf, ← this])
  have hst : ((strN a.body).toList == (strN b.body).toList) = false := by rw [beq_eq_false_iff_ne]; exact strN_ne' a.body_lt b.body_lt hne0
  obtain ⟨P, hP0⟩ : ∃ P : Int, ((a.mark.toNat : Nat) : Int) = P := ⟨_, rfl⟩
  obtain ⟨Q, hQ0⟩ : ∃ Q : Int, ((b.mark.toNat : Nat) : Int) = Q := ⟨_, rfl⟩
  have la := MsgD.bytes_len h1
  have lb := MsgD.bytes_len h2
  have lba := MsgD.body_len h1
  have lbb := MsgD.body_len h2
  have na := numL_len10 a.mark_w64
  have nk := numL_len10 (n := k) hk
  have hla := hide_ (show a.bytes.length ≤ 140737488355328 from by omega)
  have hlb := hide_ (show b.bytes.length ≤ 140737488355328 from by omega)
  have hrda := hide_ (show (((rd a.bytes).1 : Nat) : Int) = P from by rw [(rd_own a).1]; exact hP0)
  have hrdb := hide_ (show (((rd b.bytes).1 : Nat) : Int) = Q from by rw [(rd_own b).1]; exact hQ0)
  have hea := hide_ (rd_own a).2.1
  have heb := hide_ (rd_own b).2.1
  have hrea := hide_ (rd_own a).2.2
  have hreb := hide_ (rd_own b).2.2
  have hb1 := hide_ (show (numL a.mark.toNat).length + b.body.length ≤ 140737488355328 from by omega)
  have hb2 := hide_ (show (numL k).length + a.body.length ≤ 140737488355328 from by omega)
  have hlen1 := hide_ (show (numL a.mark.toNat ++ b.body).length ≤ 140737488355328 from by rw [List.length_append]; omega)
  have hlen2 := hide_ (show (numL k ++ a.body).length ≤ 140737488355328 from by rw [List.length_append]; omega)
  have hlt1 := hide_ (lt_app (n := a.mark.toNat) b.body_lt)
  have hlt2 := hide_ (lt_app (n := k) a.body_lt)
  have hP := hide_ hP0
  have hM := hide_ hM0
  have hk64 := hide_ (show W64 k from hk)
  have haR := hide_ h1
  have hbR := hide_ h2
  obtain ⟨q, hq0⟩ : ∃ q, rdMsg (numL k ++ a.body) = q := ⟨_, rfl⟩
  have hrd2 := hide_ hq0
  clear la lb lba lbb na nk hne0 h3 hbf
  by_cases h4 : P = Q
  rotate_left
  · have t4 : (P != Q) = true := by simpa using h4
    have hrd1 := hide_ (show rdMsg (numL a.mark.toNat ++ b.body) = none from rdMsg_none hlt1.out fun y hy => h4 (by rw [← hP0, ← hQ0, ((isMsg_mark h2 a.mark_w64 y).1 hy).2]))
    clear h4 hQ0 h2
    by_cases h5 : k = a.mark.toNat
    rotate_left
    · have t5 : (M == P) = false := by rw [beq_eq_false_iff_ne]; omega
      have hq : q = none := by rw [← hq0]; exact rdMsg_none hlt2.out fun y hy => h5 ((isMsg_mark h1 hk64.out y).1 hy).2
      have hoe := hide_ (show omE q = 121 from by rw [hq]; rfl)
      clear h5 hq hq0 hP0 hM0 h1 hk
      go_enter Try.func7, Try.ntmps7
      go_wp2_with ((first
        | go_big_skip
        | (go_at_call 9; refine (msgAlive_any _).mono ?_; rintro e w2 ⟨rfl, hx⟩; (try replace f3 := f3.ext hx); (try replace f7 := f7.ext hx); (try replace b8 := b8.ext hx); (try replace b10 := b10.ext hx); (try replace b13 := b13.ext hx); (try replace b16 := b16.ext hx); replace hX := hX.trans hx; clear hx)
        | (go_at_call 12; ((with_reducible refine (MRight_any (d := a) (u := u) (r1.out.ext TxR.stays hX) hp.out.1 hp.out.2).mono ?_); rintro e w4 ⟨rfl, hx⟩; rw [hda.out]; (try replace f3 := f3.ext hx); (try replace f7 := f7.ext hx); (try replace b8 := b8.ext hx); (try replace b10 := b10.ext hx); (try replace b13 := b13.ext hx); (try replace b16 := b16.ext hx); replace hX := hX.trans hx; clear hx))
        | (go_at_call 12; ((with_reducible refine (MRight_any (d := b) (u := u) (hrb.out.ext TxR.stays hX) hpb.out.1 hpb.out.2).mono ?_); rintro e w4 ⟨rfl, hx⟩; rw [hdb.out]; (try replace f3 := f3.ext hx); (try replace f7 := f7.ext hx); (try replace b8 := b8.ext hx); (try replace b10 := b10.ext hx); (try replace b13 := b13.ext hx); (try replace b16 := b16.ext hx); replace hX := hX.trans hx; clear hx))
        | (have ce := b8; clear ce; go_at_call 10; refine (MBytes_yes (d := b) (u := u) hbR.out (hrb.out.ext TxR.stays hX) hpb.out.1 hpb.out.2).mono ?_; rintro e w3 ⟨v10, rfl, o10, hx⟩; have b10 := o10.byt; clear o10; replace f3 := f3.ext hx; replace f7 := f7.ext hx; replace b8 := b8.ext hx; replace hX := hX.trans hx; clear hx)
        | (go_at_call 10; refine (MBytes_yes (d := a) (u := u) haR.out (r1.out.ext TxR.stays hX) hp.out.1 hp.out.2).mono ?_; rintro e w3 ⟨v8, rfl, o8, hx⟩; have b8 := o8.byt; clear o8; replace f3 := f3.ext hx; replace f7 := f7.ext hx; replace hX := hX.trans hx; clear hx)
        | (have ce := b13; clear ce; go_at_call 19; refine (refReadNum_own _ b.bytes _ b.bytes_lt b10 hlb.out).mono ?_; rintro e w5 ⟨v16, rfl, o16, hx⟩; rw [hrdb.out, heb.out]; rw [hreb.out] at o16; have b16 := o16.byt; clear o16 b10 b8; replace b13 := b13.ext hx; replace hX := hX.trans hx; clear hx f3 f7)
        | (have ce := b10; clear ce; go_at_call 19; refine (refReadNum_own _ a.bytes _ a.bytes_lt b8 hla.out).mono ?_; rintro e w5 ⟨v13, rfl, o13, hx⟩; rw [hrda.out, hea.out]; rw [hrea.out] at o13; have b13 := o13.byt; clear o13; replace b10 := b10.ext hx; replace hX := hX.trans hx; clear hx)
        | (go_at_call 20; ((with_reducible refine (refNum_P hP.out a.mark_w64 _).mono ?_); rintro e w6 ⟨v81, rfl, o81, hn1⟩))
        | (go_at_call 20; ((with_reducible refine (refNum_P hM.out hk64.out _).mono ?_); rintro e w6 ⟨v91, rfl, o91, hn2⟩))
        | (have ce := b83; clear ce; go_at_call 17; refine (MRead_any hlt1.out hlen1.out b83).mono ?_; rintro e w7 ⟨u18, rfl, hx, o18⟩; rw [hrd1.out] at o18 ⊢; replace o18 : OwnT _ _ u18 MsgD.zero.bk.txs := o18; clear b83; replace b13 := b13.ext hx; replace hX := hX.trans hx; clear hx)
        | (have ce := b93; clear ce; go_at_call 17; refine (MRead_any hlt2.out hlen2.out b93).mono ?_; rintro e w7 ⟨u20, rfl, hx, o20⟩; rw [hrd2.out] at o20 ⊢; rw [hoe.out]; replace hX := hX.trans hx; clear hx b93)
        | ((with_reducible refine at_box ?_); refine w_box _ (mRow a u) rfl rfl rfl rfl ?_; intro g3 w1 hg3 hX f3)
        | ((with_reducible refine at_alloc ?_); refine w_agalloc (o := ⟨some 7, _, _, _, _, _⟩) Try.agMsg rfl rfl ?_; intro g7 w6 hg7 hx7 f7)
        | ((with_reducible refine at_store ?_); refine w_agput Try.agMsg (us := mRow a u) (.tmp 7) _ rfl rfl rfl rfl rfl f7 rfl rfl (m_one r1.out.one') ?_; intro w7 hm f7'; replace f7 := f7'; have hx := hm.after hx7 (fun i e => e ▸ hg7); have hne := hide_ (show ¬ g3 = g7 from (by have := f3.lt; omega)); replace f3 := f3.ext hx; replace hg7 := Nat.le_trans hX.size hg7; replace hX := hX.trans hx; clear hm f7' hx7 hx)
        | ((with_reducible refine at_field ?_); (try refine w_yes _ _ _ rfl rfl rfl ?_); refine w_mfield _ _ _ rfl rfl rfl (by omega) ?_)
        | ((with_reducible refine at_store ?_); refine w_fstore (u := .int .i64 n) _ _ rfl rfl rfl rfl rfl f7 (show 1 < 13 from by decide) rfl rfl (by kernel_rfl) ?_; intro w9 hm f9; replace f7 : Fs w9 g7 (mRow b u) := (by rw [hb.out]; exact f9); replace f3 := f3.mod hm hne.out; replace hX := hm.after hX (fun i e => e ▸ hg7); clear hm f9)
        | ((with_reducible refine at_load ?_); (try refine w_yes _ _ _ rfl rfl rfl ?_); refine w_loadN Try.stMsg (.tmp 3) (mRow a u) rfl rfl rfl f3 rfl mself_at ?_)
        | ((with_reducible refine at_load ?_); (try refine w_yes _ _ _ rfl rfl rfl ?_); refine w_loadN Try.stMsg (.tmp 7) (mRow b u) rfl rfl rfl f7 rfl mself_at ?_)
        | ((with_reducible refine at_load ?_); (try refine w_yes _ _ _ rfl rfl rfl ?_); refine w_fload _ rfl rfl rfl f3 rfl (agg_of (by kernel_rfl)) ?_)
        | ((with_reducible refine at_conv ?_); (try refine w_yes _ _ _ rfl rfl rfl ?_); refine w_str _ rfl rfl (v := v13) rfl b13 ?_)
        | ((with_reducible refine at_conv ?_); (try refine w_yes _ _ _ rfl rfl rfl ?_); refine w_str _ rfl rfl (v := v16) rfl b16 ?_)
        | ((with_reducible refine at_bi ?_); refine appb (o := ⟨some 83, _, _, _, _, _⟩) _ _ rfl rfl rfl rfl o81 (b16.ext hn1) hb1.out hn1.size ?_; intro v83 wa o83 hba hga; have hx := hn1.trans' hba; have b83 := o83.byt; replace b13 := b13.ext hx; replace hX := hX.trans hx; clear o81 o83 hba hga hn1 hx)
        | ((with_reducible refine at_alloc ?_); refine w_agalloc (o := ⟨some 18, _, _, _, _, _⟩) Try.agMsg rfl rfl ?_; intro g18 w6 hg18 hx18 f18)
        | ((with_reducible refine at_store ?_); refine w_agput Try.agMsg (us := mRow MsgD.zero u18) (.tmp 18) _ rfl rfl rfl rfl rfl f18 rfl rfl (m_one o18.recs.one') ?_; intro w7 hm f18'; have hx := hm.after hx18 (fun i e => e ▸ hg18); replace b13 := b13.ext hx; replace hX := hX.trans hx; clear hm f18' hx18 f18 o18 hx)
        | ((with_reducible refine at_bi ?_); refine appb (o := ⟨some 93, _, _, _, _, _⟩) _ _ rfl rfl rfl rfl o91 (b13.ext hn2) hb2.out hn2.size ?_; intro v93 wa o93 hba hga; have hx := hn2.trans' hba; have b93 := o93.byt; replace hX := hX.trans hx; clear o91 o93 hba hga hn2 hx)
        | ((with_reducible refine at_alloc ?_); refine w_agalloc (o := ⟨some 20, _, _, _, _, _⟩) Try.agMsg rfl rfl ?_; intro g20 w6 hg20 hx20 f20)
        | ((with_reducible refine at_store ?_); refine w_agput Try.agMsg (us := mRow (mOr q) u20) (.tmp 20) _ rfl rfl rfl rfl rfl f20 rfl rfl (m_one o20.recs.one') ?_; intro w7 hm f20'; have hx := hm.after hx20 (fun i e => e ▸ hg20); replace hX := hX.trans hx; clear hm f20' hx20 f20 o20 hx)
        | fail) <;> (try simp only [Act.put, List.setIfInBounds_toArray, List.set_cons_zero, List.set_cons_succ]))
      go_ret
      exact Keep.intro ⟨rfl, hX⟩
    have t5 : (M == P) = true := by rw [beq_iff_eq]; omega
    have hq : q = some a := by rw [← hq0]; exact (rdMsg_iff hlt2.out a).2 ((isMsg_mark h1 hk64.out a).2 ⟨rfl, h5⟩)
    have hoe := hide_ (show omE q = 0 from by rw [hq]; rfl)
    clear h5 hq hq0 hP0 hM0 h1 hk
    go_enter Try.func7, Try.ntmps7
    go_wp2_with ((first
      | go_big_skip
      | (go_at_call 9; refine (msgAlive_any _).mono ?_; rintro e w2 ⟨rfl, hx⟩; (try replace f3 := f3.ext hx); (try replace f7 := f7.ext hx); (try replace b8 := b8.ext hx); (try replace b10 := b10.ext hx); (try replace b13 := b13.ext hx); (try replace b16 := b16.ext hx); replace hX := hX.trans hx; clear hx)
      | (go_at_call 12; ((with_reducible refine (MRight_any (d := a) (u := u) (r1.out.ext TxR.stays hX) hp.out.1 hp.out.2).mono ?_); rintro e w4 ⟨rfl, hx⟩; rw [hda.out]; (try replace f3 := f3.ext hx); (try replace f7 := f7.ext hx); (try replace b8 := b8.ext hx); (try replace b10 := b10.ext hx); (try replace b13 := b13.ext hx); (try replace b16 := b16.ext hx); replace hX := hX.trans hx; clear hx))
      | (go_at_call 12; ((with_reducible refine (MRight_any (d := b) (u := u) (hrb.out.ext TxR.stays hX) hpb.out.1 hpb.out.2).mono ?_); rintro e w4 ⟨rfl, hx⟩; rw [hdb.out]; (try replace f3 := f3.ext hx); (try replace f7 := f7.ext hx); (try replace b8 := b8.ext hx); (try replace b10 := b10.ext hx); (try replace b13 := b13.ext hx); (try replace b16 := b16.ext hx); replace hX := hX.trans hx; clear hx))
      | (have ce := b8; clear ce; go_at_call 10; refine (MBytes_yes (d := b) (u := u) hbR.out (hrb.out.ext TxR.stays hX) hpb.out.1 hpb.out.2).mono ?_; rintro e w3 ⟨v10, rfl, o10, hx⟩; have b10 := o10.byt; clear o10; replace f3 := f3.ext hx; replace f7 := f7.ext hx; replace b8 := b8.ext hx; replace hX := hX.trans hx; clear hx)
      | (go_at_call 10; refine (MBytes_yes (d := a) (u := u) haR.out (r1.out.ext TxR.stays hX) hp.out.1 hp.out.2).mono ?_; rintro e w3 ⟨v8, rfl, o8, hx⟩; have b8 := o8.byt; clear o8; replace f3 := f3.ext hx; replace f7 := f7.ext hx; replace hX := hX.trans hx; clear hx)
      | (have ce := b13; clear ce; go_at_call 19; refine (refReadNum_own _ b.bytes _ b.bytes_lt b10 hlb.out).mono ?_; rintro e w5 ⟨v16, rfl, o16, hx⟩; rw [hrdb.out, heb.out]; rw [hreb.out] at o16; have b16 := o16.byt; clear o16 b10 b8; replace b13 := b13.ext hx; replace hX := hX.trans hx; clear hx f3 f7)
      | (have ce := b10; clear ce; go_at_call 19; refine (refReadNum_own _ a.bytes _ a.bytes_lt b8 hla.out).mono ?_; rintro e w5 ⟨v13, rfl, o13, hx⟩; rw [hrda.out, hea.out]; rw [hrea.out] at o13; have b13 := o13.byt; clear o13; replace b10 := b10.ext hx; replace hX := hX.trans hx; clear hx)
      | (go_at_call 20; ((with_reducible refine (refNum_P hP.out a.mark_w64 _).mono ?_); rintro e w6 ⟨v81, rfl, o81, hn1⟩))
      | (go_at_call 20; ((with_reducible refine (refNum_P hM.out hk64.out _).mono ?_); rintro e w6 ⟨v91, rfl, o91, hn2⟩))
      | (have ce := b83; clear ce; go_at_call 17; refine (MRead_any hlt1.out hlen1.out b83).mono ?_; rintro e w7 ⟨u18, rfl, hx, o18⟩; rw [hrd1.out] at o18 ⊢; replace o18 : OwnT _ _ u18 MsgD.zero.bk.txs := o18; clear b83; replace b13 := b13.ext hx; replace hX := hX.trans hx; clear hx)
      | (have ce := b93; clear ce; go_at_call 17; refine (MRead_any hlt2.out hlen2.out b93).mono ?_; rintro e w7 ⟨u20, rfl, hx, o20⟩; rw [hrd2.out] at o20 ⊢; rw [hoe.out]; replace hX := hX.trans hx; clear hx b93)
      | ((with_reducible refine at_box ?_); refine w_box _ (mRow a u) rfl rfl rfl rfl ?_; intro g3 w1 hg3 hX f3)
      | ((with_reducible refine at_alloc ?_); refine w_agalloc (o := ⟨some 7, _, _, _, _, _⟩) Try.agMsg rfl rfl ?_; intro g7 w6 hg7 hx7 f7)
      | ((with_reducible refine at_store ?_); refine w_agput Try.agMsg (us := mRow a u) (.tmp 7) _ rfl rfl rfl rfl rfl f7 rfl rfl (m_one r1.out.one') ?_; intro w7 hm f7'; replace f7 := f7'; have hx := hm.after hx7 (fun i e => e ▸ hg7); have hne := hide_ (show ¬ g3 = g7 from (by have := f3.lt; omega)); replace f3 := f3.ext hx; replace hg7 := Nat.le_trans hX.size hg7; replace hX := hX.trans hx; clear hm f7' hx7 hx)
      | ((with_reducible refine at_field ?_); (try refine w_yes _ _ _ rfl rfl rfl ?_); refine w_mfield _ _ _ rfl rfl rfl (by omega) ?_)
      | ((with_reducible refine at_store ?_); refine w_fstore (u := .int .i64 n) _ _ rfl rfl rfl rfl rfl f7 (show 1 < 13 from by decide) rfl rfl (by kernel_rfl) ?_; intro w9 hm f9; replace f7 : Fs w9 g7 (mRow b u) := (by rw [hb.out]; exact f9); replace f3 := f3.mod hm hne.out; replace hX := hm.after hX (fun i e => e ▸ hg7); clear hm f9)
      | ((with_reducible refine at_load ?_); (try refine w_yes _ _ _ rfl rfl rfl ?_); refine w_loadN Try.stMsg (.tmp 3) (mRow a u) rfl rfl rfl f3 rfl mself_at ?_)
      | ((with_reducible refine at_load ?_); (try refine w_yes _ _ _ rfl rfl rfl ?_); refine w_loadN Try.stMsg (.tmp 7) (mRow b u) rfl rfl rfl f7 rfl mself_at ?_)
      | ((with_reducible refine at_load ?_); (try refine w_yes _ _ _ rfl rfl rfl ?_); refine w_fload _ rfl rfl rfl f3 rfl (agg_of (by kernel_rfl)) ?_)
      | ((with_reducible refine at_conv ?_); (try refine w_yes _ _ _ rfl rfl rfl ?_); refine w_str _ rfl rfl (v := v13) rfl b13 ?_)
      | ((with_reducible refine at_conv ?_); (try refine w_yes _ _ _ rfl rfl rfl ?_); refine w_str _ rfl rfl (v := v16) rfl b16 ?_)
      | ((with_reducible refine at_bi ?_); refine appb (o := ⟨some 83, _, _, _, _, _⟩) _ _ rfl rfl rfl rfl o81 (b16.ext hn1) hb1.out hn1.size ?_; intro v83 wa o83 hba hga; have hx := hn1.trans' hba; have b83 := o83.byt; replace b13 := b13.ext hx; replace hX := hX.trans hx; clear o81 o83 hba hga hn1 hx)
      | ((with_reducible refine at_alloc ?_); refine w_agalloc (o := ⟨some 18, _, _, _, _, _⟩) Try.agMsg rfl rfl ?_; intro g18 w6 hg18 hx18 f18)
      | ((with_reducible refine at_store ?_); refine w_agput Try.agMsg (us := mRow MsgD.zero u18) (.tmp 18) _ rfl rfl rfl rfl rfl f18 rfl rfl (m_one o18.recs.one') ?_; intro w7 hm f18'; have hx := hm.after hx18 (fun i e => e ▸ hg18); replace b13 := b13.ext hx; replace hX := hX.trans hx; clear hm f18' hx18 f18 o18 hx)
      | ((with_reducible refine at_bi ?_); refine appb (o := ⟨some 93, _, _, _, _, _⟩) _ _ rfl rfl rfl rfl o91 (b13.ext hn2) hb2.out hn2.size ?_; intro v93 wa o93 hba hga; have hx := hn2.trans' hba; have b93 := o93.byt; replace hX := hX.trans hx; clear o91 o93 hba hga hn2 hx)
      | ((with_reducible refine at_alloc ?_); refine w_agalloc (o := ⟨some 20, _, _, _, _, _⟩) Try.agMsg rfl rfl ?_; intro g20 w6 hg20 hx20 f20)
      | ((with_reducible refine at_store ?_); refine w_agput Try.agMsg (us := mRow (mOr q) u20) (.tmp 20) _ rfl rfl rfl rfl rfl f20 rfl rfl (m_one o20.recs.one') ?_; intro w7 hm f20'; have hx := hm.after hx20 (fun i e => e ▸ hg20); replace hX := hX.trans hx; clear hm f20' hx20 f20 o20 hx)
      | fail) <;> (try simp only [Act.put, List.setIfInBounds_toArray, List.set_cons_zero, List.set_cons_succ]))
    go_ret
    exact Keep.intro ⟨rfl, hX⟩
  have t4 : (P != Q) = false := by simpa using h4
  clear h4 hQ0 h2
  by_cases h5 : k = a.mark.toNat
  rotate_left
  · have t5 : (M == P) = false := by rw [beq_eq_false_iff_ne]; omega
    have hq : q = none := by rw [← hq0]; exact rdMsg_none hlt2.out fun y hy => h5 ((isMsg_mark h1 hk64.out y).1 hy).2
    have hoe := hide_ (show omE q = 121 from by rw [hq]; rfl)
    clear h5 hq hq0 hP0 hM0 h1 hk
    go_enter Try.func7, Try.ntmps7
    go_wp2_with ((first
      | go_big_skip
      | (go_at_call 9; refine (msgAlive_any _).mono ?_; rintro e w2 ⟨rfl, hx⟩; (try replace f3 := f3.ext hx); (try replace f7 := f7.ext hx); (try replace b8 := b8.ext hx); (try replace b10 := b10.ext hx); (try replace b13 := b13.ext hx); (try replace b16 := b16.ext hx); replace hX := hX.trans hx; clear hx)
      | (go_at_call 12; ((with_reducible refine (MRight_any (d := a) (u := u) (r1.out.ext TxR.stays hX) hp.out.1 hp.out.2).mono ?_); rintro e w4 ⟨rfl, hx⟩; rw [hda.out]; (try replace f3 := f3.ext hx); (try replace f7 := f7.ext hx); (try replace b8 := b8.ext hx); (try replace b10 := b10.ext hx); (try replace b13 := b13.ext hx); (try replace b16 := b16.ext hx); replace hX := hX.trans hx; clear hx))
      | (go_at_call 12; ((with_reducible refine (MRight_any (d := b) (u := u) (hrb.out.ext TxR.stays hX) hpb.out.1 hpb.out.2).mono ?_); rintro e w4 ⟨rfl, hx⟩; rw [hdb.out]; (try replace f3 := f3.ext hx); (try replace f7 := f7.ext hx); (try replace b8 := b8.ext hx); (try replace b10 := b10.ext hx); (try replace b13 := b13.ext hx); (try replace b16 := b16.ext hx); replace hX := hX.trans hx; clear hx))
      | (have ce := b8; clear ce; go_at_call 10; refine (MBytes_yes (d := b) (u := u) hbR.out (hrb.out.ext TxR.stays hX) hpb.out.1 hpb.out.2).mono ?_; rintro e w3 ⟨v10, rfl, o10, hx⟩; have b10 := o10.byt; clear o10; replace f3 := f3.ext hx; replace f7 := f7.ext hx; replace b8 := b8.ext hx; replace hX := hX.trans hx; clear hx)
      | (go_at_call 10; refine (MBytes_yes (d := a) (u := u) haR.out (r1.out.ext TxR.stays hX) hp.out.1 hp.out.2).mono ?_; rintro e w3 ⟨v8, rfl, o8, hx⟩; have b8 := o8.byt; clear o8; replace f3 := f3.ext hx; replace f7 := f7.ext hx; replace hX := hX.trans hx; clear hx)
      | (have ce := b13; clear ce; go_at_call 19; refine (refReadNum_own _ b.bytes _ b.bytes_lt b10 hlb.out).mono ?_; rintro e w5 ⟨v16, rfl, o16, hx⟩; rw [hrdb.out, heb.out]; rw [hreb.out] at o16; have b16 := o16.byt; clear o16 b10 b8; replace b13 := b13.ext hx; replace hX := hX.trans hx; clear hx f3 f7)
      | (have ce := b10; clear ce; go_at_call 19; refine (refReadNum_own _ a.bytes _ a.bytes_lt b8 hla.out).mono ?_; rintro e w5 ⟨v13, rfl, o13, hx⟩; rw [hrda.out, hea.out]; rw [hrea.out] at o13; have b13 := o13.byt; clear o13; replace b10 := b10.ext hx; replace hX := hX.trans hx; clear hx)
      | (go_at_call 20; ((with_reducible refine (refNum_P hM.out hk64.out _).mono ?_); rintro e w6 ⟨v91, rfl, o91, hn2⟩))
      | (have ce := b93; clear ce; go_at_call 17; refine (MRead_any hlt2.out hlen2.out b93).mono ?_; rintro e w7 ⟨u20, rfl, hx, o20⟩; rw [hrd2.out] at o20 ⊢; rw [hoe.out]; replace hX := hX.trans hx; clear hx b93)
      | ((with_reducible refine at_box ?_); refine w_box _ (mRow a u) rfl rfl rfl rfl ?_; intro g3 w1 hg3 hX f3)
      | ((with_reducible refine at_alloc ?_); refine w_agalloc (o := ⟨some 7, _, _, _, _, _⟩) Try.agMsg rfl rfl ?_; intro g7 w6 hg7 hx7 f7)
      | ((with_reducible refine at_store ?_); refine w_agput Try.agMsg (us := mRow a u) (.tmp 7) _ rfl rfl rfl rfl rfl f7 rfl rfl (m_one r1.out.one') ?_; intro w7 hm f7'; replace f7 := f7'; have hx := hm.after hx7 (fun i e => e ▸ hg7); have hne := hide_ (show ¬ g3 = g7 from (by have := f3.lt; omega)); replace f3 := f3.ext hx; replace hg7 := Nat.le_trans hX.size hg7; replace hX := hX.trans hx; clear hm f7' hx7 hx)
      | ((with_reducible refine at_field ?_); (try refine w_yes _ _ _ rfl rfl rfl ?_); refine w_mfield _ _ _ rfl rfl rfl (by omega) ?_)
      | ((with_reducible refine at_store ?_); refine w_fstore (u := .int .i64 n) _ _ rfl rfl rfl rfl rfl f7 (show 1 < 13 from by decide) rfl rfl (by kernel_rfl) ?_; intro w9 hm f9; replace f7 : Fs w9 g7 (mRow b u) := (by rw [hb.out]; exact f9); replace f3 := f3.mod hm hne.out; replace hX := hm.after hX (fun i e => e ▸ hg7); clear hm f9)
      | ((with_reducible refine at_load ?_); (try refine w_yes _ _ _ rfl rfl rfl ?_); refine w_loadN Try.stMsg (.tmp 3) (mRow a u) rfl rfl rfl f3 rfl mself_at ?_)
      | ((with_reducible refine at_load ?_); (try refine w_yes _ _ _ rfl rfl rfl ?_); refine w_loadN Try.stMsg (.tmp 7) (mRow b u) rfl rfl rfl f7 rfl mself_at ?_)
      | ((with_reducible refine at_load ?_); (try refine w_yes _ _ _ rfl rfl rfl ?_); refine w_fload _ rfl rfl rfl f3 rfl (agg_of (by kernel_rfl)) ?_)
      | ((with_reducible refine at_conv ?_); (try refine w_yes _ _ _ rfl rfl rfl ?_); refine w_str _ rfl rfl (v := v13) rfl b13 ?_)
      | ((with_reducible refine at_conv ?_); (try refine w_yes _ _ _ rfl rfl rfl ?_); refine w_str _ rfl rfl (v := v16) rfl b16 ?_)
      | ((with_reducible refine at_bi ?_); refine appb (o := ⟨some 93, _, _, _, _, _⟩) _ _ rfl rfl rfl rfl o91 (b13.ext hn2) hb2.out hn2.size ?_; intro v93 wa o93 hba hga; have hx := hn2.trans' hba; have b93 := o93.byt; replace hX := hX.trans hx; clear o91 o93 hba hga hn2 hx)
      | ((with_reducible refine at_alloc ?_); refine w_agalloc (o := ⟨some 20, _, _, _, _, _⟩) Try.agMsg rfl rfl ?_; intro g20 w6 hg20 hx20 f20)
      | ((with_reducible refine at_store ?_); refine w_agput Try.agMsg (us := mRow (mOr q) u20) (.tmp 20) _ rfl rfl rfl rfl rfl f20 rfl rfl (m_one o20.recs.one') ?_; intro w7 hm f20'; have hx := hm.after hx20 (fun i e => e ▸ hg20); replace hX := hX.trans hx; clear hm f20' hx20 f20 o20 hx)
      | fail) <;> (try simp only [Act.put, List.setIfInBounds_toArray, List.set_cons_zero, List.set_cons_succ]))
    go_ret
    exact Keep.intro ⟨rfl, hX⟩
  have t5 : (M == P) = true := by rw [beq_iff_eq]; omega
  have hq : q = some a := by rw [← hq0]; exact (rdMsg_iff hlt2.out a).2 ((isMsg_mark h1 hk64.out a).2 ⟨rfl, h5⟩)
  have hoe := hide_ (show omE q = 0 from by rw [hq]; rfl)
  clear h5 hq hq0 hP0 hM0 h1 hk
  go_enter Try.func7, Try.ntmps7
  go_wp2_with ((first
    | go_big_skip
    | (go_at_call 9; refine (msgAlive_any _).mono ?_; rintro e w2 ⟨rfl, hx⟩; (try replace f3 := f3.ext hx); (try replace f7 := f7.ext hx); (try replace b8 := b8.ext hx); (try replace b10 := b10.ext hx); (try replace b13 := b13.ext hx); (try replace b16 := b16.ext hx); replace hX := hX.trans hx; clear hx)
    | (go_at_call 12; ((with_reducible refine (MRight_any (d := a) (u := u) (r1.out.ext TxR.stays hX) hp.out.1 hp.out.2).mono ?_); rintro e w4 ⟨rfl, hx⟩; rw [hda.out]; (try replace f3 := f3.ext hx); (try replace f7 := f7.ext hx); (try replace b8 := b8.ext hx); (try replace b10 := b10.ext hx); (try replace b13 := b13.ext hx); (try replace b16 := b16.ext hx); replace hX := hX.trans hx; clear hx))
    | (go_at_call 12; ((with_reducible refine (MRight_any (d := b) (u := u) (hrb.out.ext TxR.stays hX) hpb.out.1 hpb.out.2).mono ?_); rintro e w4 ⟨rfl, hx⟩; rw [hdb.out]; (try replace f3 := f3.ext hx); (try replace f7 := f7.ext hx); (try replace b8 := b8.ext hx); (try replace b10 := b10.ext hx); (try replace b13 := b13.ext hx); (try replace b16 := b16.ext hx); replace hX := hX.trans hx; clear hx))
    | (have ce := b8; clear ce; go_at_call 10; refine (MBytes_yes (d := b) (u := u) hbR.out (hrb.out.ext TxR.stays hX) hpb.out.1 hpb.out.2).mono ?_; rintro e w3 ⟨v10, rfl, o10, hx⟩; have b10 := o10.byt; clear o10; replace f3 := f3.ext hx; replace f7 := f7.ext hx; replace b8 := b8.ext hx; replace hX := hX.trans hx; clear hx)
    | (go_at_call 10; refine (MBytes_yes (d := a) (u := u) haR.out (r1.out.ext TxR.stays hX) hp.out.1 hp.out.2).mono ?_; rintro e w3 ⟨v8, rfl, o8, hx⟩; have b8 := o8.byt; clear o8; replace f3 := f3.ext hx; replace f7 := f7.ext hx; replace hX := hX.trans hx; clear hx)
    | (have ce := b13; clear ce; go_at_call 19; refine (refReadNum_own _ b.bytes _ b.bytes_lt b10 hlb.out).mono ?_; rintro e w5 ⟨v16, rfl, o16, hx⟩; rw [hrdb.out, heb.out]; rw [hreb.out] at o16; have b16 := o16.byt; clear o16 b10 b8; replace b13 := b13.ext hx; replace hX := hX.trans hx; clear hx f3 f7)
    | (have ce := b10; clear ce; go_at_call 19; refine (refReadNum_own _ a.bytes _ a.bytes_lt b8 hla.out).mono ?_; rintro e w5 ⟨v13, rfl, o13, hx⟩; rw [hrda.out, hea.out]; rw [hrea.out] at o13; have b13 := o13.byt; clear o13; replace b10 := b10.ext hx; replace hX := hX.trans hx; clear hx)
    | (go_at_call 20; ((with_reducible refine (refNum_P hM.out hk64.out _).mono ?_); rintro e w6 ⟨v91, rfl, o91, hn2⟩))
    | (have ce := b93; clear ce; go_at_call 17; refine (MRead_any hlt2.out hlen2.out b93).mono ?_; rintro e w7 ⟨u20, rfl, hx, o20⟩; rw [hrd2.out] at o20 ⊢; rw [hoe.out]; replace hX := hX.trans hx; clear hx b93)
    | ((with_reducible refine at_box ?_); refine w_box _ (mRow a u) rfl rfl rfl rfl ?_; intro g3 w1 hg3 hX f3)
    | ((with_reducible refine at_alloc ?_); refine w_agalloc (o := ⟨some 7, _, _, _, _, _⟩) Try.agMsg rfl rfl ?_; intro g7 w6 hg7 hx7 f7)
    | ((with_reducible refine at_store ?_); refine w_agput Try.agMsg (us := mRow a u) (.tmp 7) _ rfl rfl rfl rfl rfl f7 rfl rfl (m_one r1.out.one') ?_; intro w7 hm f7'; replace f7 := f7'; have hx := hm.after hx7 (fun i e => e ▸ hg7); have hne := hide_ (show ¬ g3 = g7 from (by have := f3.lt; omega)); replace f3 := f3.ext hx; replace hg7 := Nat.le_trans hX.size hg7; replace hX := hX.trans hx; clear hm f7' hx7 hx)
    | ((with_reducible refine at_field ?_); (try refine w_yes _ _ _ rfl rfl rfl ?_); refine w_mfield _ _ _ rfl rfl rfl (by omega) ?_)
    | ((with_reducible refine at_store ?_); refine w_fstore (u := .int .i64 n) _ _ rfl rfl rfl rfl rfl f7 (show 1 < 13 from by decide) rfl rfl (by kernel_rfl) ?_; intro w9 hm f9; replace f7 : Fs w9 g7 (mRow b u) := (by rw [hb.out]; exact f9); replace f3 := f3.mod hm hne.out; replace hX := hm.after hX (fun i e => e ▸ hg7); clear hm f9)
    | ((with_reducible refine at_load ?_); (try refine w_yes _ _ _ rfl rfl rfl ?_); refine w_loadN Try.stMsg (.tmp 3) (mRow a u) rfl rfl rfl f3 rfl mself_at ?_)
    | ((with_reducible refine at_load ?_); (try refine w_yes _ _ _ rfl rfl rfl ?_); refine w_loadN Try.stMsg (.tmp 7) (mRow b u) rfl rfl rfl f7 rfl mself_at ?_)
    | ((with_reducible refine at_load ?_); (try refine w_yes _ _ _ rfl rfl rfl ?_); refine w_fload _ rfl rfl rfl f3 rfl (agg_of (by kernel_rfl)) ?_)
    | ((with_reducible refine at_conv ?_); (try refine w_yes _ _ _ rfl rfl rfl ?_); refine w_str _ rfl rfl (v := v13) rfl b13 ?_)
    | ((with_reducible refine at_conv ?_); (try refine w_yes _ _ _ rfl rfl rfl ?_); refine w_str _ rfl rfl (v := v16) rfl b16 ?_)
    | ((with_reducible refine at_bi ?_); refine appb (o := ⟨some 93, _, _, _, _, _⟩) _ _ rfl rfl rfl rfl o91 (b13.ext hn2) hb2.out hn2.size ?_; intro v93 wa o93 hba hga; have hx := hn2.trans' hba; have b93 := o93.byt; replace hX := hX.trans hx; clear o91 o93 hba hga hn2 hx)
    | ((with_reducible refine at_alloc ?_); refine w_agalloc (o := ⟨some 20, _, _, _, _, _⟩) Try.agMsg rfl rfl ?_; intro g20 w6 hg20 hx20 f20)
    | ((with_reducible refine at_store ?_); refine w_agput Try.agMsg (us := mRow (mOr q) u20) (.tmp 20) _ rfl rfl rfl rfl rfl f20 rfl rfl (m_one o20.recs.one') ?_; intro w7 hm f20'; have hx := hm.after hx20 (fun i e => e ▸ hg20); replace hX := hX.trans hx; clear hm f20' hx20 f20 o20 hx)
    | fail) <;> (try simp only [Act.put, List.setIfInBounds_toArray, List.set_cons_zero, List.set_cons_succ]))
  go_ret
  exact Keep.intro ⟨rfl, hX⟩

set_option maxRecDepth 100000 in
theorem msgMarks_lifted (os : Os) (started : os.Started) (H : Type) (enc : TypeId × Value → H) :
    ReturnsInHanded {} Try.checked os 7 .any (Rows.msgMarksSpec.pre6 enc Try.prog Try.f7 Rows.msgMarksRow.domain false) (Rows.msgMarksSpec.post enc Try.prog Try.f7 false true false false) := by
  refine law_lifted (s := Rows.msgMarksSpec) (conds := Rows.msgMarksRow.domain) Try.func7 (by kernel_rfl) rfl (fun H ds h => by
      rw [show Try.f7.params.size = 3 from rfl] at h
      match ds, h with
      | [d0, d1, d2], _ => rfl) rfl rfl (by decide +kernel) os started H enc
    (ChangeSpec.witness6 (enc := enc) (C := Try.checked) false ⟨#[], #[.agg #[.int .i64 0, .int .i64 0, .int .i64 0, .int .i64 0, .int .i64 0, .int .i64 0, .int .i64 0, .int .i64 0, .int .i64 0, .int .i64 0, .int .i64 0, .int .i64 0, .slice none 0 0], .int .i64 0, .int .u64 0], []⟩ 8 (by kernel_rfl) (by kernel_rfl) (by kernel_rfl) (by kernel_rfl)) ?_
  intro W base args ds p hval hA hsz _
  have hp : Try.f7.params.toList = [29, 3, 45] := rfl
  rw [hp] at hA hsz
  obtain ⟨v0, v1, v2, d0, d1, d2, p0, p1, p2, rfl, rfl, rfl, h0, h1, h2⟩ := trodAll_three hA
  obtain ⟨row0, m0, rfl, n0, k0⟩ := arg_Msg hsz (j := 0) rfl rfl (hval 0 29 v0 rfl rfl) h0
  obtain ⟨a1, rfl, b1, c1⟩ := arg_int (hval 1 3 v1 rfl rfl) h1
  obtain ⟨a2, rfl, b2⟩ := arg_u64 (hval 2 45 v2 rfl rfl) h2
  exact msgMarks_law row0 m0 a1 a2 W k0 ⟨b1, c1⟩ b2

theorem msgMarks_holds : Rows.MsgMarksSaid :=
  OpenClaim.holds_of_wide 7 Try.f7 rfl rfl rfl rfl rfl rfl rfl ⟨rfl, rfl, rfl, rfl, rfl⟩ rfl rfl rfl rfl rfl (by kernel_rfl) Try.func7 (by kernel_rfl)
    (of_decide_eq_true (by kernel_rfl)) (by unfold Func.isWrapper; first | (rw [if_pos (by decide +kernel)]; kernel_rfl) | (rw [if_neg (by decide +kernel)]; exact ⟨rfl, rfl⟩))
    (fun os started H enc _ => msgMarks_lifted os started H enc)
#print axioms msgMarks_holds

end Go.Proofs.Ytidhhmmjiflpjaa
