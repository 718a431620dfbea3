/- fromBody of package msg: what is read of a message's body. -/
import Derived.Test.YtgbhbifdfcfamaaMg3
import Derived.Test.YtgbhbifdfcfamaaBk3
namespace Go.Proofs.Ytgbhbifdfcfamaa
set_option maxRecDepth 100000
open Go.RowKit

theorem rdBlk_ok {b : List Nat} {x : BlkD} (h : rdBlk b = some x) : x.Right := by
  unfold rdBlk at h
  split at h
  · split at h
    · split at h
      · rename_i hr; cases h; exact hr
      · cases h
    · cases h
  · cases h
theorem frB_raw {b : List Nat} (hb : ∀ x ∈ b, x < 256) : I64 (frB b).1.vl ∧ I64 (frB b).1.bk.parent := by
  have hz : I64 0 := by unfold I64; omega
  cases hr : rns 6 b with
  | none => rw [frB_c1 hr]; exact ⟨hz, hz⟩
  | some pr =>
    obtain ⟨xs, s⟩ := pr
    obtain ⟨_, h2, h3⟩ := rns_was 6 b xs s hb hr
    match xs, h2 with
    | [k, f, i, v, x, p], _ =>
      have hx : I64 x := by have := h3 x (by simp); unfold I64; omega
      by_cases hk : k = 0
      · rw [frB_c2 hr hk]; exact ⟨hx, hz⟩
      · by_cases hk1 : k = 1
        · rw [frB_c3 hr hk1]
          refine ⟨hx, ?_⟩
          cases ht : rdBlk s with
          | none => exact hz
          | some t =>
            obtain ⟨_, _, _, h7, _⟩ := rdBlk_ok ht
            show I64 t.parent
            unfold I64
            rcases h7 with h7 | ⟨h7, _⟩
            · omega
            · have := MsgD.nm_le h7; omega
        · rw [frB_c4 hr hk hk1]; exact ⟨hx, hz⟩

set_option maxRecDepth 100000 in
set_option maxHeartbeats 3200000 in
theorem fromBody_any {w : World} {v : Value} {b : List Nat} {m : MsgD} {n : Nat} (hfr : frB b = (m, n)) (hb : ∀ x ∈ b, x < 256) (hlen : b.length ≤ 140737488355328) (hv : Byt w v b) :
    Calls Try.prog 43 #[v] w fun e w' => ∃ u, e = .returned (.tuple #[.agg (mRow m u).toArray, .int .i64 (n : Nat)]) ∧ Ext w w' ∧ OwnT w.heap.size w' u m.bk.txs := by
  refine calls_keep ?_
  replace hv := hide_ hv
  cases hr0 : rns 6 b with
  | none =>
    rw [frB_c1 hr0] at hfr
    injection hfr with hm hn
    subst hm hn
    have hr := hide_ hr0
    clear hr0
    go_enter Try.func43, Try.ntmps43
    go_wp2_with ((first
      | (go_at_call 59; refine (RNums_no (m := 6) (by omega) hr.out hb hlen (hv.out.ext hX)).mono ?_; rintro e w2 ⟨v1, v2, rfl, hx⟩; replace f2 := f2.ext hx; replace hX := hX.trans hx; clear hx)
      | ((with_reducible refine at_alloc ?_); refine w_agalloc Try.agMsg rfl rfl ?_; intro g2 w1 hg2 hX f2)
      | ((with_reducible refine at_sbuild ?_); refine w_mbuild mZero rfl rfl rfl (by intro p hp; simp at hp) ?_)
      | ((with_reducible refine at_store ?_); refine w_agput Try.agMsg (us := mZero) _ _ rfl rfl rfl rfl rfl f2 rfl rfl (m_one (d := MsgD.zero) rfl) ?_; intro w9 hm f9; replace f2 := f9; replace hX := hm.after hX (fun i e => e ▸ hg2); clear hm f9)
      | fail) <;> (try simp only [Act.put, List.setIfInBounds_toArray, List.set_cons_zero, List.set_cons_succ]))
    exact bodyPost_ret (ag_two Try.agMsg rfl rfl rfl f2 rfl) rfl (Keep.intro ⟨.slice none 0 0, rfl, hX, OwnT.nil _ _⟩)
  | some pr =>
    obtain ⟨xs, s⟩ := pr
    obtain ⟨hbs, hxl, _⟩ := rns_was 6 b xs s hb hr0
    obtain ⟨k, f, i, y, x, p, rfl⟩ : ∃ k f i y x p, xs = [k, f, i, y, x, p] := by
      match xs, hxl with
      | [k, f, i, y, x, p], _ => exact ⟨k, f, i, y, x, p, rfl⟩
    have hs := hide_ (show ∀ z ∈ s, z < 256 from fun z hz => hb z (by rw [hbs]; exact List.mem_append_right _ hz))
    have hslen := hide_ (show s.length ≤ 140737488355328 from by rw [hbs] at hlen; simp at hlen; omega)
    have hr := hide_ hr0
    clear hbs hxl
    by_cases hk : k = 0
    · have t0 : (k == 0) = true := by simpa using hk
      rw [frB_c2 hr0 hk] at hfr
      injection hfr with hm hn
      subst hm hn
      clear hr0 hk
      go_enter Try.func43, Try.ntmps43
      go_wp2_with ((first
        | (go_at_call 59; refine (RNums_yes (m := 6) (by omega) hr.out hb hlen (hv.out.ext hX)).mono ?_; rintro e w2 ⟨v1, v2, rfl, i1, b2, hx⟩; replace f2 := f2.ext hx; replace hX := hX.trans hx; clear hx)
        | ((with_reducible refine at_alloc ?_); refine w_agalloc Try.agMsg rfl rfl ?_; intro g2 w1 hg2 hX f2)
        | fail) <;> (try simp only [Act.put, List.setIfInBounds_toArray, List.set_cons_zero, List.set_cons_succ]))
      refine wp_region_phx (by kernel_rfl) ?_; intro wd hxd; replace i1 := i1.ext hxd; replace b2 := b2.ext hxd; replace f2 := f2.ext hxd; replace hX := hX.trans hxd
      refine Ph.gate 0 20 (by kernel_rfl) ?_
      refine LinL.step (s := (.val (v1))) [(4, none)] rfl (by kernel_rfl) (op_out 4 (v1) rfl (.inl rfl) rfl) ?_
      refine LinL.step (s := (Sp.ptr (.int .i64 (k)))) [(18, some 0)] rfl (by kernel_rfl) (op_runs rfl fun σ w' hx hg => rptri (ρ := σ.eval) (w := w') (.tmp 18) (.const (.int .i64 0)) rfl hg.1 (i1.ext hx) 0 rfl (by simp) rfl) ?_
      refine LinL.step (s := (.val (.int .i64 (k : Int)))) [(19, some 0)] rfl (by kernel_rfl) (op_runs rfl fun σ w' hx hg => ⟨_, runs_load (ρ := σ.eval) (w := w') (.tmp 19) rfl Try.underlying3 rfl hg.1, rfl⟩) ?_
      refine LinL.step (s := (.val (v1))) [(4, none)] rfl (by kernel_rfl) (op_out 4 (v1) rfl (.inl rfl) rfl) ?_
      refine LinL.step (s := (Sp.ptr (.int .i64 (f)))) [(21, some 0)] rfl (by kernel_rfl) (op_runs rfl fun σ w' hx hg => rptri (ρ := σ.eval) (w := w') (.tmp 21) (.const (.int .i64 1)) rfl hg.1 (i1.ext hx) 1 rfl (by simp) rfl) ?_
      refine LinL.step (s := (.val (.int .i64 (f : Int)))) [(22, some 0)] rfl (by kernel_rfl) (op_runs rfl fun σ w' hx hg => ⟨_, runs_load (ρ := σ.eval) (w := w') (.tmp 22) rfl Try.underlying3 rfl hg.1, rfl⟩) ?_
      refine LinL.step (s := (.val (v1))) [(4, none)] rfl (by kernel_rfl) (op_out 4 (v1) rfl (.inl rfl) rfl) ?_
      refine LinL.step (s := (Sp.ptr (.int .i64 (i)))) [(24, some 0)] rfl (by kernel_rfl) (op_runs rfl fun σ w' hx hg => rptri (ρ := σ.eval) (w := w') (.tmp 24) (.const (.int .i64 2)) rfl hg.1 (i1.ext hx) 2 rfl (by simp) rfl) ?_
      refine LinL.step (s := (.val (.int .i64 (i : Int)))) [(25, some 0)] rfl (by kernel_rfl) (op_runs rfl fun σ w' hx hg => ⟨_, runs_load (ρ := σ.eval) (w := w') (.tmp 25) rfl Try.underlying3 rfl hg.1, rfl⟩) ?_
      refine LinL.step (s := (.val (v1))) [(4, none)] rfl (by kernel_rfl) (op_out 4 (v1) rfl (.inl rfl) rfl) ?_
      refine LinL.step (s := (Sp.ptr (.int .i64 (y)))) [(27, some 0)] rfl (by kernel_rfl) (op_runs rfl fun σ w' hx hg => rptri (ρ := σ.eval) (w := w') (.tmp 27) (.const (.int .i64 3)) rfl hg.1 (i1.ext hx) 3 rfl (by simp) rfl) ?_
      refine LinL.step (s := (.val (.int .i64 (y : Int)))) [(28, some 0)] rfl (by kernel_rfl) (op_runs rfl fun σ w' hx hg => ⟨_, runs_load (ρ := σ.eval) (w := w') (.tmp 28) rfl Try.underlying3 rfl hg.1, rfl⟩) ?_
      refine LinL.step (s := (.val (v1))) [(4, none)] rfl (by kernel_rfl) (op_out 4 (v1) rfl (.inl rfl) rfl) ?_
      refine LinL.step (s := (Sp.ptr (.int .i64 (x)))) [(30, some 0)] rfl (by kernel_rfl) (op_runs rfl fun σ w' hx hg => rptri (ρ := σ.eval) (w := w') (.tmp 30) (.const (.int .i64 4)) rfl hg.1 (i1.ext hx) 4 rfl (by simp) rfl) ?_
      refine LinL.step (s := (.val (.int .i64 (x : Int)))) [(31, some 0)] rfl (by kernel_rfl) (op_runs rfl fun σ w' hx hg => ⟨_, runs_load (ρ := σ.eval) (w := w') (.tmp 31) rfl Try.underlying3 rfl hg.1, rfl⟩) ?_
      refine LinL.step (s := (.val (v1))) [(4, none)] rfl (by kernel_rfl) (op_out 4 (v1) rfl (.inl rfl) rfl) ?_
      refine LinL.step (s := (Sp.ptr (.int .i64 (p)))) [(33, some 0)] rfl (by kernel_rfl) (op_runs rfl fun σ w' hx hg => rptri (ρ := σ.eval) (w := w') (.tmp 33) (.const (.int .i64 5)) rfl hg.1 (i1.ext hx) 5 rfl (by simp) rfl) ?_
      refine LinL.step (s := (.val (.int .i64 (p : Int)))) [(34, some 0)] rfl (by kernel_rfl) (op_runs rfl fun σ w' hx hg => ⟨_, runs_load (ρ := σ.eval) (w := w') (.tmp 34) rfl Try.underlying3 rfl hg.1, rfl⟩) ?_
      refine LinL.step (s := (.val (.agg #[.int .i64 k, .int .i64 f, .int .i64 i, .int .i64 y, .int .i64 x, .int .i64 p, .int .i64 0, .int .i64 0, .int .i64 0, .int .i64 0, .int .i64 0, .int .i64 0, .slice none 0 0]))) [(20, some 15), (23, some 12), (26, some 9), (29, some 6), (32, some 3), (35, some 0)] rfl (by kernel_rfl) (op_runs rfl fun σ w' hx hg => ⟨_, runs_mbuild (ρ := σ.eval) (w := w') [.int .i64 k, .int .i64 f, .int .i64 i, .int .i64 y, .int .i64 x, .int .i64 p, .int .i64 0, .int .i64 0, .int .i64 0, .int .i64 0, .int .i64 0, .int .i64 0, .slice none 0 0] (ps := #[(0, .tmp 20), (1, .tmp 23), (2, .tmp 26), (3, .tmp 29), (4, .tmp 32), (5, .tmp 35)]) rfl (by have h20 : σ.tmps.getD 20 undef = .int .i64 (k : Int) := hg.1; have h23 : σ.tmps.getD 23 undef = .int .i64 (f : Int) := hg.2.1; have h26 : σ.tmps.getD 26 undef = .int .i64 (i : Int) := hg.2.2.1; have h29 : σ.tmps.getD 29 undef = .int .i64 (y : Int) := hg.2.2.2.1; have h32 : σ.tmps.getD 32 undef = .int .i64 (x : Int) := hg.2.2.2.2.1; have h35 : σ.tmps.getD 35 undef = .int .i64 (p : Int) := hg.2.2.2.2.2.1; simp only [List.map_cons, List.map_nil, Act.eval, h20, h23, h26, h29, h32, h35, mZero, List.foldl_cons, List.foldl_nil, List.set_cons_zero, List.set_cons_succ]) (by have h20 : σ.tmps.getD 20 undef = .int .i64 (k : Int) := hg.1; have h23 : σ.tmps.getD 23 undef = .int .i64 (f : Int) := hg.2.1; have h26 : σ.tmps.getD 26 undef = .int .i64 (i : Int) := hg.2.2.1; have h29 : σ.tmps.getD 29 undef = .int .i64 (y : Int) := hg.2.2.2.1; have h32 : σ.tmps.getD 32 undef = .int .i64 (x : Int) := hg.2.2.2.2.1; have h35 : σ.tmps.getD 35 undef = .int .i64 (p : Int) := hg.2.2.2.2.2.1; intro p hp; simp at hp; rcases hp with rfl | rfl | rfl | rfl | rfl | rfl; exact ⟨by decide, by show (σ.tmps.getD 20 undef).cells = #[σ.tmps.getD 20 undef]; rw [h20]; exact rfl⟩; exact ⟨by decide, by show (σ.tmps.getD 23 undef).cells = #[σ.tmps.getD 23 undef]; rw [h23]; exact rfl⟩; exact ⟨by decide, by show (σ.tmps.getD 26 undef).cells = #[σ.tmps.getD 26 undef]; rw [h26]; exact rfl⟩; exact ⟨by decide, by show (σ.tmps.getD 29 undef).cells = #[σ.tmps.getD 29 undef]; rw [h29]; exact rfl⟩; exact ⟨by decide, by show (σ.tmps.getD 32 undef).cells = #[σ.tmps.getD 32 undef]; rw [h32]; exact rfl⟩; exact ⟨by decide, by show (σ.tmps.getD 35 undef).cells = #[σ.tmps.getD 35 undef]; rw [h35]; exact rfl⟩), rfl⟩) ?_
      refine LinL.step (s := (Sp.fs wd.heap.size mZero)) [] rfl (by kernel_rfl) (op_agalloc Try.agMsg (Nat.le_refl _) rfl rfl) ?_
      intro wN hxN
      simp only [Fin', Sp.ptr, Sp.fs, List.reverse_cons, List.reverse_nil, List.nil_append, List.cons_append, List.drop_zero, List.take_succ_cons, List.take_zero]
      intro q19 hq19 q22 hq22 q25 hq25 q28 hq28 q31 hq31 q34 hq34 q7 hq7
      simp only [Act.put, List.setIfInBounds_toArray, List.set_cons_zero, List.set_cons_succ]
      obtain ⟨g7, rfl, hg7, f7⟩ := hq7
      refine wpOp_of_list rfl ?_
      refine w_agput Try.agMsg (us := [.int .i64 k, .int .i64 f, .int .i64 i, .int .i64 y, .int .i64 x, .int .i64 p, .int .i64 0, .int .i64 0, .int .i64 0, .int .i64 0, .int .i64 0, .int .i64 0, .slice none 0 0]) _ _ rfl rfl rfl rfl rfl f7 rfl rfl (m_one (d := ⟨k, f, i, y, x, p, TxD.zero, BlkD.zero⟩) rfl) ?_; intro w8 hm8 f8
      replace f7 : Fs w8 g7 (mRow ⟨k, f, i, y, x, p, TxD.zero, BlkD.zero⟩ (.slice none 0 0)) := f8
      have hx8 : Ext wd w8 := hm8.after hxN (fun j e => e ▸ hg7)
      have hne := hide_ (show ¬ g2 = g7 from (by have := f2.lt; omega))
      replace f2 := f2.ext hx8; replace b2 := b2.ext hx8; replace hg7 := Nat.le_trans hX.size hg7; replace hX := hX.trans hx8
      show Ph Try.prog _ _ 21 _ _
      refine Ph.rest 21 0 (by kernel_rfl) ?_
      intro wN2 hxN2
      simp only [Fin', List.reverse_nil, List.drop_zero, List.drop_succ_cons, List.take_zero]
      replace f7 := f7.ext hxN2; replace f2 := f2.ext hxN2; replace b2 := b2.ext hxN2; replace hX := hX.trans hxN2
      clear hxN2 hm8 hx8 hxN hxd i1 f8
      go_wp2_with ((first
        | (go_at_call 60; refine (TRead_any hs.out hslen.out b2).mono ?_; rintro e w3 ⟨rfl, hx⟩; replace f7 := f7.ext hx; replace f2 := f2.ext hx; replace hX := hX.trans hx; clear hx)
        | ((with_reducible refine at_field ?_); (try refine w_yes _ _ _ rfl rfl rfl ?_); refine w_mfield _ _ _ rfl rfl rfl (by omega) ?_)
        | ((with_reducible refine at_store ?_); refine w_agstore Try.agTx (us := tRw (tOr (rdTx s))) _ _ rfl rfl rfl rfl rfl f7 rfl (show 6 + 2 ≤ 13 from by decide) (TxD.one _) ?_; intro w9 hm f9; replace f7 : Fs w9 g7 (mRow ⟨k, f, i, y, x, p, tOr (rdTx s), BlkD.zero⟩ (.slice none 0 0)) := f9; replace f2 := f2.mod hm hne.out; replace hX := hm.after hX (fun i e => e ▸ hg7); clear hm f9)
        | ((with_reducible refine at_load ?_); refine w_loadN Try.stMsg _ (mRow ⟨k, f, i, y, x, p, tOr (rdTx s), BlkD.zero⟩ (.slice none 0 0)) rfl rfl rfl f7 rfl mself_at ?_)
        | ((with_reducible refine at_load ?_); (try refine w_yes _ _ _ rfl rfl rfl ?_); refine w_fload _ rfl rfl rfl f7 rfl (agg_of (by kernel_rfl)) ?_)
        | ((with_reducible refine at_store ?_); refine w_agput Try.agMsg (us := mRow ⟨k, f, i, y, x, p, tOr (rdTx s), BlkD.zero⟩ (.slice none 0 0)) _ _ rfl rfl rfl rfl rfl f2 rfl rfl (m_one rfl) ?_; intro w9 hm f9; replace f2 := f9; replace hX := hm.after hX (fun i e => e ▸ hg2); clear hm f9)
        | fail) <;> (try simp only [Act.put, List.setIfInBounds_toArray, List.set_cons_zero, List.set_cons_succ]))
      exact bodyPost_ret (ag_two Try.agMsg rfl rfl rfl f2 rfl) rfl (Keep.intro ⟨.slice none 0 0, rfl, hX, OwnT.nil _ _⟩)
    have t0 : (k == 0) = false := by simpa using hk
    by_cases hk1 : k = 1
    · have t1 : (k == 1) = true := by simpa using hk1
      rw [frB_c3 hr0 hk1] at hfr
      injection hfr with hm hn
      subst hm hn
      clear hr0 hk hk1
      go_enter Try.func43, Try.ntmps43
      go_wp2_with ((first
        | (go_at_call 59; refine (RNums_yes (m := 6) (by omega) hr.out hb hlen (hv.out.ext hX)).mono ?_; rintro e w2 ⟨v1, v2, rfl, i1, b2, hx⟩; replace f2 := f2.ext hx; replace hX := hX.trans hx; clear hx)
        | ((with_reducible refine at_alloc ?_); refine w_agalloc Try.agMsg rfl rfl ?_; intro g2 w1 hg2 hX f2)
        | fail) <;> (try simp only [Act.put, List.setIfInBounds_toArray, List.set_cons_zero, List.set_cons_succ]))
      refine wp_region_phx (by kernel_rfl) ?_; intro wd hxd; replace i1 := i1.ext hxd; replace b2 := b2.ext hxd; replace f2 := f2.ext hxd; replace hX := hX.trans hxd
      refine Ph.gate 0 20 (by kernel_rfl) ?_
      refine LinL.step (s := (.val (v1))) [(4, none)] rfl (by kernel_rfl) (op_out 4 (v1) rfl (.inl rfl) rfl) ?_
      refine LinL.step (s := (Sp.ptr (.int .i64 (k)))) [(18, some 0)] rfl (by kernel_rfl) (op_runs rfl fun σ w' hx hg => rptri (ρ := σ.eval) (w := w') (.tmp 18) (.const (.int .i64 0)) rfl hg.1 (i1.ext hx) 0 rfl (by simp) rfl) ?_
      refine LinL.step (s := (.val (.int .i64 (k : Int)))) [(19, some 0)] rfl (by kernel_rfl) (op_runs rfl fun σ w' hx hg => ⟨_, runs_load (ρ := σ.eval) (w := w') (.tmp 19) rfl Try.underlying3 rfl hg.1, rfl⟩) ?_
      refine LinL.step (s := (.val (v1))) [(4, none)] rfl (by kernel_rfl) (op_out 4 (v1) rfl (.inl rfl) rfl) ?_
      refine LinL.step (s := (Sp.ptr (.int .i64 (f)))) [(21, some 0)] rfl (by kernel_rfl) (op_runs rfl fun σ w' hx hg => rptri (ρ := σ.eval) (w := w') (.tmp 21) (.const (.int .i64 1)) rfl hg.1 (i1.ext hx) 1 rfl (by simp) rfl) ?_
      refine LinL.step (s := (.val (.int .i64 (f : Int)))) [(22, some 0)] rfl (by kernel_rfl) (op_runs rfl fun σ w' hx hg => ⟨_, runs_load (ρ := σ.eval) (w := w') (.tmp 22) rfl Try.underlying3 rfl hg.1, rfl⟩) ?_
      refine LinL.step (s := (.val (v1))) [(4, none)] rfl (by kernel_rfl) (op_out 4 (v1) rfl (.inl rfl) rfl) ?_
      refine LinL.step (s := (Sp.ptr (.int .i64 (i)))) [(24, some 0)] rfl (by kernel_rfl) (op_runs rfl fun σ w' hx hg => rptri (ρ := σ.eval) (w := w') (.tmp 24) (.const (.int .i64 2)) rfl hg.1 (i1.ext hx) 2 rfl (by simp) rfl) ?_
      refine LinL.step (s := (.val (.int .i64 (i : Int)))) [(25, some 0)] rfl (by kernel_rfl) (op_runs rfl fun σ w' hx hg => ⟨_, runs_load (ρ := σ.eval) (w := w') (.tmp 25) rfl Try.underlying3 rfl hg.1, rfl⟩) ?_
      refine LinL.step (s := (.val (v1))) [(4, none)] rfl (by kernel_rfl) (op_out 4 (v1) rfl (.inl rfl) rfl) ?_
      refine LinL.step (s := (Sp.ptr (.int .i64 (y)))) [(27, some 0)] rfl (by kernel_rfl) (op_runs rfl fun σ w' hx hg => rptri (ρ := σ.eval) (w := w') (.tmp 27) (.const (.int .i64 3)) rfl hg.1 (i1.ext hx) 3 rfl (by simp) rfl) ?_
      refine LinL.step (s := (.val (.int .i64 (y : Int)))) [(28, some 0)] rfl (by kernel_rfl) (op_runs rfl fun σ w' hx hg => ⟨_, runs_load (ρ := σ.eval) (w := w') (.tmp 28) rfl Try.underlying3 rfl hg.1, rfl⟩) ?_
      refine LinL.step (s := (.val (v1))) [(4, none)] rfl (by kernel_rfl) (op_out 4 (v1) rfl (.inl rfl) rfl) ?_
      refine LinL.step (s := (Sp.ptr (.int .i64 (x)))) [(30, some 0)] rfl (by kernel_rfl) (op_runs rfl fun σ w' hx hg => rptri (ρ := σ.eval) (w := w') (.tmp 30) (.const (.int .i64 4)) rfl hg.1 (i1.ext hx) 4 rfl (by simp) rfl) ?_
      refine LinL.step (s := (.val (.int .i64 (x : Int)))) [(31, some 0)] rfl (by kernel_rfl) (op_runs rfl fun σ w' hx hg => ⟨_, runs_load (ρ := σ.eval) (w := w') (.tmp 31) rfl Try.underlying3 rfl hg.1, rfl⟩) ?_
      refine LinL.step (s := (.val (v1))) [(4, none)] rfl (by kernel_rfl) (op_out 4 (v1) rfl (.inl rfl) rfl) ?_
      refine LinL.step (s := (Sp.ptr (.int .i64 (p)))) [(33, some 0)] rfl (by kernel_rfl) (op_runs rfl fun σ w' hx hg => rptri (ρ := σ.eval) (w := w') (.tmp 33) (.const (.int .i64 5)) rfl hg.1 (i1.ext hx) 5 rfl (by simp) rfl) ?_
      refine LinL.step (s := (.val (.int .i64 (p : Int)))) [(34, some 0)] rfl (by kernel_rfl) (op_runs rfl fun σ w' hx hg => ⟨_, runs_load (ρ := σ.eval) (w := w') (.tmp 34) rfl Try.underlying3 rfl hg.1, rfl⟩) ?_
      refine LinL.step (s := (.val (.agg #[.int .i64 k, .int .i64 f, .int .i64 i, .int .i64 y, .int .i64 x, .int .i64 p, .int .i64 0, .int .i64 0, .int .i64 0, .int .i64 0, .int .i64 0, .int .i64 0, .slice none 0 0]))) [(20, some 15), (23, some 12), (26, some 9), (29, some 6), (32, some 3), (35, some 0)] rfl (by kernel_rfl) (op_runs rfl fun σ w' hx hg => ⟨_, runs_mbuild (ρ := σ.eval) (w := w') [.int .i64 k, .int .i64 f, .int .i64 i, .int .i64 y, .int .i64 x, .int .i64 p, .int .i64 0, .int .i64 0, .int .i64 0, .int .i64 0, .int .i64 0, .int .i64 0, .slice none 0 0] (ps := #[(0, .tmp 20), (1, .tmp 23), (2, .tmp 26), (3, .tmp 29), (4, .tmp 32), (5, .tmp 35)]) rfl (by have h20 : σ.tmps.getD 20 undef = .int .i64 (k : Int) := hg.1; have h23 : σ.tmps.getD 23 undef = .int .i64 (f : Int) := hg.2.1; have h26 : σ.tmps.getD 26 undef = .int .i64 (i : Int) := hg.2.2.1; have h29 : σ.tmps.getD 29 undef = .int .i64 (y : Int) := hg.2.2.2.1; have h32 : σ.tmps.getD 32 undef = .int .i64 (x : Int) := hg.2.2.2.2.1; have h35 : σ.tmps.getD 35 undef = .int .i64 (p : Int) := hg.2.2.2.2.2.1; simp only [List.map_cons, List.map_nil, Act.eval, h20, h23, h26, h29, h32, h35, mZero, List.foldl_cons, List.foldl_nil, List.set_cons_zero, List.set_cons_succ]) (by have h20 : σ.tmps.getD 20 undef = .int .i64 (k : Int) := hg.1; have h23 : σ.tmps.getD 23 undef = .int .i64 (f : Int) := hg.2.1; have h26 : σ.tmps.getD 26 undef = .int .i64 (i : Int) := hg.2.2.1; have h29 : σ.tmps.getD 29 undef = .int .i64 (y : Int) := hg.2.2.2.1; have h32 : σ.tmps.getD 32 undef = .int .i64 (x : Int) := hg.2.2.2.2.1; have h35 : σ.tmps.getD 35 undef = .int .i64 (p : Int) := hg.2.2.2.2.2.1; intro p hp; simp at hp; rcases hp with rfl | rfl | rfl | rfl | rfl | rfl; exact ⟨by decide, by show (σ.tmps.getD 20 undef).cells = #[σ.tmps.getD 20 undef]; rw [h20]; exact rfl⟩; exact ⟨by decide, by show (σ.tmps.getD 23 undef).cells = #[σ.tmps.getD 23 undef]; rw [h23]; exact rfl⟩; exact ⟨by decide, by show (σ.tmps.getD 26 undef).cells = #[σ.tmps.getD 26 undef]; rw [h26]; exact rfl⟩; exact ⟨by decide, by show (σ.tmps.getD 29 undef).cells = #[σ.tmps.getD 29 undef]; rw [h29]; exact rfl⟩; exact ⟨by decide, by show (σ.tmps.getD 32 undef).cells = #[σ.tmps.getD 32 undef]; rw [h32]; exact rfl⟩; exact ⟨by decide, by show (σ.tmps.getD 35 undef).cells = #[σ.tmps.getD 35 undef]; rw [h35]; exact rfl⟩), rfl⟩) ?_
      refine LinL.step (s := (Sp.fs wd.heap.size mZero)) [] rfl (by kernel_rfl) (op_agalloc Try.agMsg (Nat.le_refl _) rfl rfl) ?_
      intro wN hxN
      simp only [Fin', Sp.ptr, Sp.fs, List.reverse_cons, List.reverse_nil, List.nil_append, List.cons_append, List.drop_zero, List.take_succ_cons, List.take_zero]
      intro q19 hq19 q22 hq22 q25 hq25 q28 hq28 q31 hq31 q34 hq34 q7 hq7
      simp only [Act.put, List.setIfInBounds_toArray, List.set_cons_zero, List.set_cons_succ]
      obtain ⟨g7, rfl, hg7, f7⟩ := hq7
      refine wpOp_of_list rfl ?_
      refine w_agput Try.agMsg (us := [.int .i64 k, .int .i64 f, .int .i64 i, .int .i64 y, .int .i64 x, .int .i64 p, .int .i64 0, .int .i64 0, .int .i64 0, .int .i64 0, .int .i64 0, .int .i64 0, .slice none 0 0]) _ _ rfl rfl rfl rfl rfl f7 rfl rfl (m_one (d := ⟨k, f, i, y, x, p, TxD.zero, BlkD.zero⟩) rfl) ?_; intro w8 hm8 f8
      replace f7 : Fs w8 g7 (mRow ⟨k, f, i, y, x, p, TxD.zero, BlkD.zero⟩ (.slice none 0 0)) := f8
      have hx8 : Ext wd w8 := hm8.after hxN (fun j e => e ▸ hg7)
      have hne := hide_ (show ¬ g2 = g7 from (by have := f2.lt; omega))
      replace f2 := f2.ext hx8; replace b2 := b2.ext hx8; replace hg7 := Nat.le_trans hX.size hg7; replace hX := hX.trans hx8
      show Ph Try.prog _ _ 21 _ _
      refine Ph.rest 21 0 (by kernel_rfl) ?_
      intro wN2 hxN2
      simp only [Fin', List.reverse_nil, List.drop_zero, List.drop_succ_cons, List.take_zero]
      replace f7 := f7.ext hxN2; replace f2 := f2.ext hxN2; replace b2 := b2.ext hxN2; replace hX := hX.trans hxN2
      clear hxN2 hm8 hx8 hxN hxd i1 f8
      go_wp2_with ((first
        | (go_at_call 61; refine (BRead_any hs.out hslen.out b2).mono ?_; rintro e w3 ⟨u, rfl, hx, o3⟩; have n2 : ∀ k, u.ownBlock = some k → ¬ k = g2 := (fun k hk e => by have := o3.new k hk; have := f2.lt; omega); have n7 : ∀ k, u.ownBlock = some k → ¬ k = g7 := (fun k hk e => by have := o3.new k hk; have := f7.lt; omega); replace o3 := o3.mono hX.size; replace f7 := f7.ext hx; replace f2 := f2.ext hx; replace hX := hX.trans hx; clear hx)
        | ((with_reducible refine at_field ?_); (try refine w_yes _ _ _ rfl rfl rfl ?_); refine w_mfield _ _ _ rfl rfl rfl (by omega) ?_)
        | ((with_reducible refine at_store ?_); refine w_agstore Try.agBlk (us := bRw (bOr (rdBlk s)) u) _ _ rfl rfl rfl rfl rfl f7 rfl (show 8 + 5 ≤ 13 from by decide) (b_one o3.recs.one') ?_; intro w9 hm f9; replace f7 : Fs w9 g7 (mRow ⟨k, f, i, y, x, p, TxD.zero, bOr (rdBlk s)⟩ u) := f9; replace f2 := f2.mod hm hne.out; replace o3 := o3.mod hm (fun k hk e => n7 k hk e); replace hX := hm.after hX (fun i e => e ▸ hg7); clear hm f9)
        | ((with_reducible refine at_load ?_); have ce := o3; clear ce; refine w_loadN Try.stMsg _ (mRow ⟨k, f, i, y, x, p, TxD.zero, bOr (rdBlk s)⟩ u) rfl rfl rfl f7 rfl mself_at ?_)
        | ((with_reducible refine at_load ?_); (try refine w_yes _ _ _ rfl rfl rfl ?_); refine w_fload _ rfl rfl rfl f7 rfl (agg_of (by kernel_rfl)) ?_)
        | ((with_reducible refine at_store ?_); refine w_agput Try.agMsg (us := mRow ⟨k, f, i, y, x, p, TxD.zero, bOr (rdBlk s)⟩ u) _ _ rfl rfl rfl rfl rfl f2 rfl rfl (m_one o3.recs.one') ?_; intro w9 hm f9; replace f2 := f9; replace o3 := o3.mod hm (fun k hk e => n2 k hk e); replace hX := hm.after hX (fun i e => e ▸ hg2); clear hm f9)
        | fail) <;> (try simp only [Act.put, List.setIfInBounds_toArray, List.set_cons_zero, List.set_cons_succ]))
      exact bodyPost_ret (ag_two Try.agMsg rfl rfl rfl f2 rfl) rfl (Keep.intro ⟨u, rfl, hX, o3⟩)
    have t1 : (k == 1) = false := by simpa using hk1
    rw [frB_c4 hr0 hk hk1] at hfr
    injection hfr with hm hn
    subst hm hn
    clear hr0 hk hk1
    have hL := hslen.out
    by_cases hs0 : s = []
    · have hz := hide_ (show lE s = 0 from if_pos hs0)
      have hlz := hide_ (show ((s.length : Nat) : Int) = 0 from by rw [hs0]; rfl)
      clear hs0
      go_enter Try.func43, Try.ntmps43
      go_wp2_with ((first
        | (go_at_call 59; refine (RNums_yes (m := 6) (by omega) hr.out hb hlen (hv.out.ext hX)).mono ?_; rintro e w2 ⟨v1, v2, rfl, i1, b2, hx⟩; replace f2 := f2.ext hx; replace hX := hX.trans hx; clear hx)
        | ((with_reducible refine at_alloc ?_); refine w_agalloc Try.agMsg rfl rfl ?_; intro g2 w1 hg2 hX f2)
        | fail) <;> (try simp only [Act.put, List.setIfInBounds_toArray, List.set_cons_zero, List.set_cons_succ]))
      refine wp_region_phx (by kernel_rfl) ?_; intro wd hxd; replace i1 := i1.ext hxd; replace b2 := b2.ext hxd; replace f2 := f2.ext hxd; replace hX := hX.trans hxd
      refine Ph.gate 0 20 (by kernel_rfl) ?_
      refine LinL.step (s := (.val (v1))) [(4, none)] rfl (by kernel_rfl) (op_out 4 (v1) rfl (.inl rfl) rfl) ?_
      refine LinL.step (s := (Sp.ptr (.int .i64 (k)))) [(18, some 0)] rfl (by kernel_rfl) (op_runs rfl fun σ w' hx hg => rptri (ρ := σ.eval) (w := w') (.tmp 18) (.const (.int .i64 0)) rfl hg.1 (i1.ext hx) 0 rfl (by simp) rfl) ?_
      refine LinL.step (s := (.val (.int .i64 (k : Int)))) [(19, some 0)] rfl (by kernel_rfl) (op_runs rfl fun σ w' hx hg => ⟨_, runs_load (ρ := σ.eval) (w := w') (.tmp 19) rfl Try.underlying3 rfl hg.1, rfl⟩) ?_
      refine LinL.step (s := (.val (v1))) [(4, none)] rfl (by kernel_rfl) (op_out 4 (v1) rfl (.inl rfl) rfl) ?_
      refine LinL.step (s := (Sp.ptr (.int .i64 (f)))) [(21, some 0)] rfl (by kernel_rfl) (op_runs rfl fun σ w' hx hg => rptri (ρ := σ.eval) (w := w') (.tmp 21) (.const (.int .i64 1)) rfl hg.1 (i1.ext hx) 1 rfl (by simp) rfl) ?_
      refine LinL.step (s := (.val (.int .i64 (f : Int)))) [(22, some 0)] rfl (by kernel_rfl) (op_runs rfl fun σ w' hx hg => ⟨_, runs_load (ρ := σ.eval) (w := w') (.tmp 22) rfl Try.underlying3 rfl hg.1, rfl⟩) ?_
      refine LinL.step (s := (.val (v1))) [(4, none)] rfl (by kernel_rfl) (op_out 4 (v1) rfl (.inl rfl) rfl) ?_
      refine LinL.step (s := (Sp.ptr (.int .i64 (i)))) [(24, some 0)] rfl (by kernel_rfl) (op_runs rfl fun σ w' hx hg => rptri (ρ := σ.eval) (w := w') (.tmp 24) (.const (.int .i64 2)) rfl hg.1 (i1.ext hx) 2 rfl (by simp) rfl) ?_
      refine LinL.step (s := (.val (.int .i64 (i : Int)))) [(25, some 0)] rfl (by kernel_rfl) (op_runs rfl fun σ w' hx hg => ⟨_, runs_load (ρ := σ.eval) (w := w') (.tmp 25) rfl Try.underlying3 rfl hg.1, rfl⟩) ?_
      refine LinL.step (s := (.val (v1))) [(4, none)] rfl (by kernel_rfl) (op_out 4 (v1) rfl (.inl rfl) rfl) ?_
      refine LinL.step (s := (Sp.ptr (.int .i64 (y)))) [(27, some 0)] rfl (by kernel_rfl) (op_runs rfl fun σ w' hx hg => rptri (ρ := σ.eval) (w := w') (.tmp 27) (.const (.int .i64 3)) rfl hg.1 (i1.ext hx) 3 rfl (by simp) rfl) ?_
      refine LinL.step (s := (.val (.int .i64 (y : Int)))) [(28, some 0)] rfl (by kernel_rfl) (op_runs rfl fun σ w' hx hg => ⟨_, runs_load (ρ := σ.eval) (w := w') (.tmp 28) rfl Try.underlying3 rfl hg.1, rfl⟩) ?_
      refine LinL.step (s := (.val (v1))) [(4, none)] rfl (by kernel_rfl) (op_out 4 (v1) rfl (.inl rfl) rfl) ?_
      refine LinL.step (s := (Sp.ptr (.int .i64 (x)))) [(30, some 0)] rfl (by kernel_rfl) (op_runs rfl fun σ w' hx hg => rptri (ρ := σ.eval) (w := w') (.tmp 30) (.const (.int .i64 4)) rfl hg.1 (i1.ext hx) 4 rfl (by simp) rfl) ?_
      refine LinL.step (s := (.val (.int .i64 (x : Int)))) [(31, some 0)] rfl (by kernel_rfl) (op_runs rfl fun σ w' hx hg => ⟨_, runs_load (ρ := σ.eval) (w := w') (.tmp 31) rfl Try.underlying3 rfl hg.1, rfl⟩) ?_
      refine LinL.step (s := (.val (v1))) [(4, none)] rfl (by kernel_rfl) (op_out 4 (v1) rfl (.inl rfl) rfl) ?_
      refine LinL.step (s := (Sp.ptr (.int .i64 (p)))) [(33, some 0)] rfl (by kernel_rfl) (op_runs rfl fun σ w' hx hg => rptri (ρ := σ.eval) (w := w') (.tmp 33) (.const (.int .i64 5)) rfl hg.1 (i1.ext hx) 5 rfl (by simp) rfl) ?_
      refine LinL.step (s := (.val (.int .i64 (p : Int)))) [(34, some 0)] rfl (by kernel_rfl) (op_runs rfl fun σ w' hx hg => ⟨_, runs_load (ρ := σ.eval) (w := w') (.tmp 34) rfl Try.underlying3 rfl hg.1, rfl⟩) ?_
      refine LinL.step (s := (.val (.agg #[.int .i64 k, .int .i64 f, .int .i64 i, .int .i64 y, .int .i64 x, .int .i64 p, .int .i64 0, .int .i64 0, .int .i64 0, .int .i64 0, .int .i64 0, .int .i64 0, .slice none 0 0]))) [(20, some 15), (23, some 12), (26, some 9), (29, some 6), (32, some 3), (35, some 0)] rfl (by kernel_rfl) (op_runs rfl fun σ w' hx hg => ⟨_, runs_mbuild (ρ := σ.eval) (w := w') [.int .i64 k, .int .i64 f, .int .i64 i, .int .i64 y, .int .i64 x, .int .i64 p, .int .i64 0, .int .i64 0, .int .i64 0, .int .i64 0, .int .i64 0, .int .i64 0, .slice none 0 0] (ps := #[(0, .tmp 20), (1, .tmp 23), (2, .tmp 26), (3, .tmp 29), (4, .tmp 32), (5, .tmp 35)]) rfl (by have h20 : σ.tmps.getD 20 undef = .int .i64 (k : Int) := hg.1; have h23 : σ.tmps.getD 23 undef = .int .i64 (f : Int) := hg.2.1; have h26 : σ.tmps.getD 26 undef = .int .i64 (i : Int) := hg.2.2.1; have h29 : σ.tmps.getD 29 undef = .int .i64 (y : Int) := hg.2.2.2.1; have h32 : σ.tmps.getD 32 undef = .int .i64 (x : Int) := hg.2.2.2.2.1; have h35 : σ.tmps.getD 35 undef = .int .i64 (p : Int) := hg.2.2.2.2.2.1; simp only [List.map_cons, List.map_nil, Act.eval, h20, h23, h26, h29, h32, h35, mZero, List.foldl_cons, List.foldl_nil, List.set_cons_zero, List.set_cons_succ]) (by have h20 : σ.tmps.getD 20 undef = .int .i64 (k : Int) := hg.1; have h23 : σ.tmps.getD 23 undef = .int .i64 (f : Int) := hg.2.1; have h26 : σ.tmps.getD 26 undef = .int .i64 (i : Int) := hg.2.2.1; have h29 : σ.tmps.getD 29 undef = .int .i64 (y : Int) := hg.2.2.2.1; have h32 : σ.tmps.getD 32 undef = .int .i64 (x : Int) := hg.2.2.2.2.1; have h35 : σ.tmps.getD 35 undef = .int .i64 (p : Int) := hg.2.2.2.2.2.1; intro p hp; simp at hp; rcases hp with rfl | rfl | rfl | rfl | rfl | rfl; exact ⟨by decide, by show (σ.tmps.getD 20 undef).cells = #[σ.tmps.getD 20 undef]; rw [h20]; exact rfl⟩; exact ⟨by decide, by show (σ.tmps.getD 23 undef).cells = #[σ.tmps.getD 23 undef]; rw [h23]; exact rfl⟩; exact ⟨by decide, by show (σ.tmps.getD 26 undef).cells = #[σ.tmps.getD 26 undef]; rw [h26]; exact rfl⟩; exact ⟨by decide, by show (σ.tmps.getD 29 undef).cells = #[σ.tmps.getD 29 undef]; rw [h29]; exact rfl⟩; exact ⟨by decide, by show (σ.tmps.getD 32 undef).cells = #[σ.tmps.getD 32 undef]; rw [h32]; exact rfl⟩; exact ⟨by decide, by show (σ.tmps.getD 35 undef).cells = #[σ.tmps.getD 35 undef]; rw [h35]; exact rfl⟩), rfl⟩) ?_
      refine LinL.step (s := (Sp.fs wd.heap.size mZero)) [] rfl (by kernel_rfl) (op_agalloc Try.agMsg (Nat.le_refl _) rfl rfl) ?_
      intro wN hxN
      simp only [Fin', Sp.ptr, Sp.fs, List.reverse_cons, List.reverse_nil, List.nil_append, List.cons_append, List.drop_zero, List.take_succ_cons, List.take_zero]
      intro q19 hq19 q22 hq22 q25 hq25 q28 hq28 q31 hq31 q34 hq34 q7 hq7
      simp only [Act.put, List.setIfInBounds_toArray, List.set_cons_zero, List.set_cons_succ]
      obtain ⟨g7, rfl, hg7, f7⟩ := hq7
      refine wpOp_of_list rfl ?_
      refine w_agput Try.agMsg (us := [.int .i64 k, .int .i64 f, .int .i64 i, .int .i64 y, .int .i64 x, .int .i64 p, .int .i64 0, .int .i64 0, .int .i64 0, .int .i64 0, .int .i64 0, .int .i64 0, .slice none 0 0]) _ _ rfl rfl rfl rfl rfl f7 rfl rfl (m_one (d := ⟨k, f, i, y, x, p, TxD.zero, BlkD.zero⟩) rfl) ?_; intro w8 hm8 f8
      replace f7 : Fs w8 g7 (mRow ⟨k, f, i, y, x, p, TxD.zero, BlkD.zero⟩ (.slice none 0 0)) := f8
      have hx8 : Ext wd w8 := hm8.after hxN (fun j e => e ▸ hg7)
      have hne := hide_ (show ¬ g2 = g7 from (by have := f2.lt; omega))
      replace f2 := f2.ext hx8; replace b2 := b2.ext hx8; replace hg7 := Nat.le_trans hX.size hg7; replace hX := hX.trans hx8
      show Ph Try.prog _ _ 21 _ _
      refine Ph.rest 21 0 (by kernel_rfl) ?_
      intro wN2 hxN2
      simp only [Fin', List.reverse_nil, List.drop_zero, List.drop_succ_cons, List.take_zero]
      replace f7 := f7.ext hxN2; replace f2 := f2.ext hxN2; replace b2 := b2.ext hxN2; replace hX := hX.trans hxN2
      clear hxN2 hm8 hx8 hxN hxd i1 f8
      go_wp2_with ((first
        | ((with_reducible refine at_bi ?_); refine b_len _ rfl rfl rfl b2 ?_; rw [hlz.out])
        | ((with_reducible refine at_field ?_); (try refine w_yes _ _ _ rfl rfl rfl ?_); refine w_mfield _ _ _ rfl rfl rfl (by omega) ?_)
        | ((with_reducible refine at_load ?_); refine w_loadN Try.stMsg _ (mRow ⟨k, f, i, y, x, p, TxD.zero, BlkD.zero⟩ (.slice none 0 0)) rfl rfl rfl f7 rfl mself_at ?_)
        | ((with_reducible refine at_load ?_); (try refine w_yes _ _ _ rfl rfl rfl ?_); refine w_fload _ rfl rfl rfl f7 rfl (agg_of (by kernel_rfl)) ?_)
        | ((with_reducible refine at_store ?_); refine w_agput Try.agMsg (us := mRow ⟨k, f, i, y, x, p, TxD.zero, BlkD.zero⟩ (.slice none 0 0)) _ _ rfl rfl rfl rfl rfl f2 rfl rfl (m_one rfl) ?_; intro w9 hm f9; replace f2 := f9; replace hX := hm.after hX (fun i e => e ▸ hg2); clear hm f9)
        | fail) <;> (try simp only [Act.put, List.setIfInBounds_toArray, List.set_cons_zero, List.set_cons_succ]))
      exact bodyPost_ret (ag_two Try.agMsg rfl rfl rfl f2 rfl) rfl (Keep.intro ⟨.slice none 0 0, by rw [hz.out]; rfl, hX, OwnT.nil _ _⟩)
    · have hz := hide_ (show lE s = 121 from if_neg hs0)
      obtain ⟨q, hq⟩ : ∃ q : Int, ((s.length : Nat) : Int) = q := ⟨_, rfl⟩
      have hlz := hide_ hq
      have tq : decide (0 < q) = true := by
        have := List.length_pos_iff.2 hs0
        rw [← hq]; simp; omega
      clear hs0 hq
      go_enter Try.func43, Try.ntmps43
      go_wp2_with ((first
        | (go_at_call 59; refine (RNums_yes (m := 6) (by omega) hr.out hb hlen (hv.out.ext hX)).mono ?_; rintro e w2 ⟨v1, v2, rfl, i1, b2, hx⟩; replace f2 := f2.ext hx; replace hX := hX.trans hx; clear hx)
        | ((with_reducible refine at_alloc ?_); refine w_agalloc Try.agMsg rfl rfl ?_; intro g2 w1 hg2 hX f2)
        | fail) <;> (try simp only [Act.put, List.setIfInBounds_toArray, List.set_cons_zero, List.set_cons_succ]))
      refine wp_region_phx (by kernel_rfl) ?_; intro wd hxd; replace i1 := i1.ext hxd; replace b2 := b2.ext hxd; replace f2 := f2.ext hxd; replace hX := hX.trans hxd
      refine Ph.gate 0 20 (by kernel_rfl) ?_
      refine LinL.step (s := (.val (v1))) [(4, none)] rfl (by kernel_rfl) (op_out 4 (v1) rfl (.inl rfl) rfl) ?_
      refine LinL.step (s := (Sp.ptr (.int .i64 (k)))) [(18, some 0)] rfl (by kernel_rfl) (op_runs rfl fun σ w' hx hg => rptri (ρ := σ.eval) (w := w') (.tmp 18) (.const (.int .i64 0)) rfl hg.1 (i1.ext hx) 0 rfl (by simp) rfl) ?_
      refine LinL.step (s := (.val (.int .i64 (k : Int)))) [(19, some 0)] rfl (by kernel_rfl) (op_runs rfl fun σ w' hx hg => ⟨_, runs_load (ρ := σ.eval) (w := w') (.tmp 19) rfl Try.underlying3 rfl hg.1, rfl⟩) ?_
      refine LinL.step (s := (.val (v1))) [(4, none)] rfl (by kernel_rfl) (op_out 4 (v1) rfl (.inl rfl) rfl) ?_
      refine LinL.step (s := (Sp.ptr (.int .i64 (f)))) [(21, some 0)] rfl (by kernel_rfl) (op_runs rfl fun σ w' hx hg => rptri (ρ := σ.eval) (w := w') (.tmp 21) (.const (.int .i64 1)) rfl hg.1 (i1.ext hx) 1 rfl (by simp) rfl) ?_
      refine LinL.step (s := (.val (.int .i64 (f : Int)))) [(22, some 0)] rfl (by kernel_rfl) (op_runs rfl fun σ w' hx hg => ⟨_, runs_load (ρ := σ.eval) (w := w') (.tmp 22) rfl Try.underlying3 rfl hg.1, rfl⟩) ?_
      refine LinL.step (s := (.val (v1))) [(4, none)] rfl (by kernel_rfl) (op_out 4 (v1) rfl (.inl rfl) rfl) ?_
      refine LinL.step (s := (Sp.ptr (.int .i64 (i)))) [(24, some 0)] rfl (by kernel_rfl) (op_runs rfl fun σ w' hx hg => rptri (ρ := σ.eval) (w := w') (.tmp 24) (.const (.int .i64 2)) rfl hg.1 (i1.ext hx) 2 rfl (by simp) rfl) ?_
      refine LinL.step (s := (.val (.int .i64 (i : Int)))) [(25, some 0)] rfl (by kernel_rfl) (op_runs rfl fun σ w' hx hg => ⟨_, runs_load (ρ := σ.eval) (w := w') (.tmp 25) rfl Try.underlying3 rfl hg.1, rfl⟩) ?_
      refine LinL.step (s := (.val (v1))) [(4, none)] rfl (by kernel_rfl) (op_out 4 (v1) rfl (.inl rfl) rfl) ?_
      refine LinL.step (s := (Sp.ptr (.int .i64 (y)))) [(27, some 0)] rfl (by kernel_rfl) (op_runs rfl fun σ w' hx hg => rptri (ρ := σ.eval) (w := w') (.tmp 27) (.const (.int .i64 3)) rfl hg.1 (i1.ext hx) 3 rfl (by simp) rfl) ?_
      refine LinL.step (s := (.val (.int .i64 (y : Int)))) [(28, some 0)] rfl (by kernel_rfl) (op_runs rfl fun σ w' hx hg => ⟨_, runs_load (ρ := σ.eval) (w := w') (.tmp 28) rfl Try.underlying3 rfl hg.1, rfl⟩) ?_
      refine LinL.step (s := (.val (v1))) [(4, none)] rfl (by kernel_rfl) (op_out 4 (v1) rfl (.inl rfl) rfl) ?_
      refine LinL.step (s := (Sp.ptr (.int .i64 (x)))) [(30, some 0)] rfl (by kernel_rfl) (op_runs rfl fun σ w' hx hg => rptri (ρ := σ.eval) (w := w') (.tmp 30) (.const (.int .i64 4)) rfl hg.1 (i1.ext hx) 4 rfl (by simp) rfl) ?_
      refine LinL.step (s := (.val (.int .i64 (x : Int)))) [(31, some 0)] rfl (by kernel_rfl) (op_runs rfl fun σ w' hx hg => ⟨_, runs_load (ρ := σ.eval) (w := w') (.tmp 31) rfl Try.underlying3 rfl hg.1, rfl⟩) ?_
      refine LinL.step (s := (.val (v1))) [(4, none)] rfl (by kernel_rfl) (op_out 4 (v1) rfl (.inl rfl) rfl) ?_
      refine LinL.step (s := (Sp.ptr (.int .i64 (p)))) [(33, some 0)] rfl (by kernel_rfl) (op_runs rfl fun σ w' hx hg => rptri (ρ := σ.eval) (w := w') (.tmp 33) (.const (.int .i64 5)) rfl hg.1 (i1.ext hx) 5 rfl (by simp) rfl) ?_
      refine LinL.step (s := (.val (.int .i64 (p : Int)))) [(34, some 0)] rfl (by kernel_rfl) (op_runs rfl fun σ w' hx hg => ⟨_, runs_load (ρ := σ.eval) (w := w') (.tmp 34) rfl Try.underlying3 rfl hg.1, rfl⟩) ?_
      refine LinL.step (s := (.val (.agg #[.int .i64 k, .int .i64 f, .int .i64 i, .int .i64 y, .int .i64 x, .int .i64 p, .int .i64 0, .int .i64 0, .int .i64 0, .int .i64 0, .int .i64 0, .int .i64 0, .slice none 0 0]))) [(20, some 15), (23, some 12), (26, some 9), (29, some 6), (32, some 3), (35, some 0)] rfl (by kernel_rfl) (op_runs rfl fun σ w' hx hg => ⟨_, runs_mbuild (ρ := σ.eval) (w := w') [.int .i64 k, .int .i64 f, .int .i64 i, .int .i64 y, .int .i64 x, .int .i64 p, .int .i64 0, .int .i64 0, .int .i64 0, .int .i64 0, .int .i64 0, .int .i64 0, .slice none 0 0] (ps := #[(0, .tmp 20), (1, .tmp 23), (2, .tmp 26), (3, .tmp 29), (4, .tmp 32), (5, .tmp 35)]) rfl (by have h20 : σ.tmps.getD 20 undef = .int .i64 (k : Int) := hg.1; have h23 : σ.tmps.getD 23 undef = .int .i64 (f : Int) := hg.2.1; have h26 : σ.tmps.getD 26 undef = .int .i64 (i : Int) := hg.2.2.1; have h29 : σ.tmps.getD 29 undef = .int .i64 (y : Int) := hg.2.2.2.1; have h32 : σ.tmps.getD 32 undef = .int .i64 (x : Int) := hg.2.2.2.2.1; have h35 : σ.tmps.getD 35 undef = .int .i64 (p : Int) := hg.2.2.2.2.2.1; simp only [List.map_cons, List.map_nil, Act.eval, h20, h23, h26, h29, h32, h35, mZero, List.foldl_cons, List.foldl_nil, List.set_cons_zero, List.set_cons_succ]) (by have h20 : σ.tmps.getD 20 undef = .int .i64 (k : Int) := hg.1; have h23 : σ.tmps.getD 23 undef = .int .i64 (f : Int) := hg.2.1; have h26 : σ.tmps.getD 26 undef = .int .i64 (i : Int) := hg.2.2.1; have h29 : σ.tmps.getD 29 undef = .int .i64 (y : Int) := hg.2.2.2.1; have h32 : σ.tmps.getD 32 undef = .int .i64 (x : Int) := hg.2.2.2.2.1; have h35 : σ.tmps.getD 35 undef = .int .i64 (p : Int) := hg.2.2.2.2.2.1; intro p hp; simp at hp; rcases hp with rfl | rfl | rfl | rfl | rfl | rfl; exact ⟨by decide, by show (σ.tmps.getD 20 undef).cells = #[σ.tmps.getD 20 undef]; rw [h20]; exact rfl⟩; exact ⟨by decide, by show (σ.tmps.getD 23 undef).cells = #[σ.tmps.getD 23 undef]; rw [h23]; exact rfl⟩; exact ⟨by decide, by show (σ.tmps.getD 26 undef).cells = #[σ.tmps.getD 26 undef]; rw [h26]; exact rfl⟩; exact ⟨by decide, by show (σ.tmps.getD 29 undef).cells = #[σ.tmps.getD 29 undef]; rw [h29]; exact rfl⟩; exact ⟨by decide, by show (σ.tmps.getD 32 undef).cells = #[σ.tmps.getD 32 undef]; rw [h32]; exact rfl⟩; exact ⟨by decide, by show (σ.tmps.getD 35 undef).cells = #[σ.tmps.getD 35 undef]; rw [h35]; exact rfl⟩), rfl⟩) ?_
      refine LinL.step (s := (Sp.fs wd.heap.size mZero)) [] rfl (by kernel_rfl) (op_agalloc Try.agMsg (Nat.le_refl _) rfl rfl) ?_
      intro wN hxN
      simp only [Fin', Sp.ptr, Sp.fs, List.reverse_cons, List.reverse_nil, List.nil_append, List.cons_append, List.drop_zero, List.take_succ_cons, List.take_zero]
      intro q19 hq19 q22 hq22 q25 hq25 q28 hq28 q31 hq31 q34 hq34 q7 hq7
      simp only [Act.put, List.setIfInBounds_toArray, List.set_cons_zero, List.set_cons_succ]
      obtain ⟨g7, rfl, hg7, f7⟩ := hq7
      refine wpOp_of_list rfl ?_
      refine w_agput Try.agMsg (us := [.int .i64 k, .int .i64 f, .int .i64 i, .int .i64 y, .int .i64 x, .int .i64 p, .int .i64 0, .int .i64 0, .int .i64 0, .int .i64 0, .int .i64 0, .int .i64 0, .slice none 0 0]) _ _ rfl rfl rfl rfl rfl f7 rfl rfl (m_one (d := ⟨k, f, i, y, x, p, TxD.zero, BlkD.zero⟩) rfl) ?_; intro w8 hm8 f8
      replace f7 : Fs w8 g7 (mRow ⟨k, f, i, y, x, p, TxD.zero, BlkD.zero⟩ (.slice none 0 0)) := f8
      have hx8 : Ext wd w8 := hm8.after hxN (fun j e => e ▸ hg7)
      have hne := hide_ (show ¬ g2 = g7 from (by have := f2.lt; omega))
      replace f2 := f2.ext hx8; replace b2 := b2.ext hx8; replace hg7 := Nat.le_trans hX.size hg7; replace hX := hX.trans hx8
      show Ph Try.prog _ _ 21 _ _
      refine Ph.rest 21 0 (by kernel_rfl) ?_
      intro wN2 hxN2
      simp only [Fin', List.reverse_nil, List.drop_zero, List.drop_succ_cons, List.take_zero]
      replace f7 := f7.ext hxN2; replace f2 := f2.ext hxN2; replace b2 := b2.ext hxN2; replace hX := hX.trans hxN2
      clear hxN2 hm8 hx8 hxN hxd i1 f8
      go_wp2_with ((first
        | ((with_reducible refine at_bi ?_); refine b_len _ rfl rfl rfl b2 ?_; rw [hlz.out])
        | ((with_reducible refine at_field ?_); (try refine w_yes _ _ _ rfl rfl rfl ?_); refine w_mfield _ _ _ rfl rfl rfl (by omega) ?_)
        | ((with_reducible refine at_load ?_); refine w_loadN Try.stMsg _ (mRow ⟨k, f, i, y, x, p, TxD.zero, BlkD.zero⟩ (.slice none 0 0)) rfl rfl rfl f7 rfl mself_at ?_)
        | ((with_reducible refine at_load ?_); (try refine w_yes _ _ _ rfl rfl rfl ?_); refine w_fload _ rfl rfl rfl f7 rfl (agg_of (by kernel_rfl)) ?_)
        | ((with_reducible refine at_store ?_); refine w_agput Try.agMsg (us := mRow ⟨k, f, i, y, x, p, TxD.zero, BlkD.zero⟩ (.slice none 0 0)) _ _ rfl rfl rfl rfl rfl f2 rfl rfl (m_one rfl) ?_; intro w9 hm f9; replace f2 := f9; replace hX := hm.after hX (fun i e => e ▸ hg2); clear hm f9)
        | fail) <;> (try simp only [Act.put, List.setIfInBounds_toArray, List.set_cons_zero, List.set_cons_succ]))
      exact bodyPost_ret (ag_two Try.agMsg rfl rfl rfl f2 rfl) rfl (Keep.intro ⟨.slice none 0 0, by rw [hz.out]; rfl, hX, OwnT.nil _ _⟩)
end Go.Proofs.Ytgbhbifdfcfamaa
