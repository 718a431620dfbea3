/- Read of the document's messages. -/
import Derived.Test.YtgbhbifdfcfamaaMg5
import Derived.Test.YtgbhbifdfcfamaaMg9
namespace Go.Proofs.Ytgbhbifdfcfamaa
set_option maxRecDepth 100000
open Go.RowKit

theorem mr_nob {d : MsgD} {u : Value} (h : ∃ a c n, u = .slice a c n) : ∀ x ∈ mRow d u, ∀ z, x ≠ .int .u8 z := by
  obtain ⟨a, c, n, rfl⟩ := h
  intro x hx z
  simp only [mRow, List.mem_cons, List.not_mem_nil, or_false] at hx
  rcases hx with rfl | rfl | rfl | rfl | rfl | rfl | rfl | rfl | rfl | rfl | rfl | rfl | rfl
  all_goals exact fun h => by cases h
/-- The walk behind the reading of the parts. -/
theorem rdMsg_rest {b : List Nat} (hb : ∀ x ∈ b, x < 256) {m : MsgD} {n : Nat} (h : frB (rdRest b) = (m, n)) : rdMsg b = if m.Right ∧ m.bytes = b then some m else none := by
  by_cases hc : m.Right ∧ m.bytes = b
  · have h1 : (frB (rdRest b)).1 = m := by rw [h]
    have := rdMsg_again hb (by rw [h1]; exact hc.1) (by rw [h1]; exact hc.2)
    rw [if_pos hc, this, h1]
  · rw [if_neg hc]
    exact rdMsg_else hb fun hr he => hc (by rw [h] at hr he; exact ⟨hr, he⟩)
set_option maxRecDepth 100000 in
set_option maxHeartbeats 6400000 in
theorem refMRead_any {w : World} {v : Value} {b : List Nat} (hb : ∀ x ∈ b, x < 256) (hlen : b.length ≤ 140737488355328) (hv : Byt w v b) :
    Calls Try.prog 16 #[v] w fun e w' => MRead w b e w' := by
  refine calls_keep ?_
  have No : rdMsg b = none → Hid (∀ e w', e = .returned (.tuple #[.agg mZero.toArray, .int .i64 121]) → Ext w w' → Keep (MRead w b) e w') := fun h => hide_ (fun e w' he hx => Keep.intro ⟨.slice none 0 0, by rw [he, h]; rfl, hx, by rw [h]; exact OwnT.nil _ _⟩)
  by_cases h0 : (rd b).2 = 0
  · have hre := hide_ (show rdErr b = 11 from if_pos h0)
    replace No := No (by unfold rdMsg; rw [if_neg (fun h => h.1 h0)])
    clear h0
    go_enter Try.func16, Try.ntmps16
    go_wp2_with ((first
      | go_big_skip
      | (go_at_call 29; refine (refReadNum_own _ b _ hb hv hlen).mono ?_; rintro e w2 ⟨v2, rfl, o2, hx⟩; rw [hre.out]; have b2 := o2.byt; clear o2; replace hv := hv.ext hx; replace f2 := f2.ext hx; replace hX := hX.trans hx; clear hx)
      | ((with_reducible refine at_alloc ?_); refine w_agalloc Try.agMsg rfl rfl ?_; intro g2 w1 hg2 hX f2; replace hv := hv.ext hX)
      | ((with_reducible refine at_sbuild ?_); refine w_mbuild mZero rfl rfl rfl (by intro p hp; simp at hp) ?_)
      | ((with_reducible refine at_store ?_); refine w_agput Try.agMsg (us := mZero) (.tmp 2) _ rfl rfl rfl rfl rfl f2 rfl rfl (m_one (d := MsgD.zero) rfl) ?_; intro w9 hm f9; replace f2 := f9; replace hX := hm.after hX (fun i e => e ▸ hg2); clear hm f9)
      | fail) <;> (try simp only [Act.put, List.setIfInBounds_toArray, List.set_cons_zero, List.set_cons_succ]))
    exact bodyPost_ret (ag_two Try.agMsg rfl rfl rfl f2 rfl) rfl (No.out _ _ rfl hX)
  have hre := hide_ (show rdErr b = 0 from if_neg h0)
  have hs1 := hide_ (rdRest_lt' (l := b) hb)
  have hl1 := hide_ (Nat.le_trans (rdRest_len b) hlen)
  cases hr0 : rns 6 (rdRest b) with
  | none =>
    have hr6 := hide_ hr0
    replace No := No (by unfold rdMsg; rw [frB_c1 hr0, if_neg (fun h => by have := h.2.1; cases this)])
    clear hr0 h0
    go_enter Try.func16, Try.ntmps16
    go_wp2_with ((first
      | go_big_skip
      | (go_at_call 29; refine (refReadNum_own _ b _ hb hv hlen).mono ?_; rintro e w2 ⟨v2, rfl, o2, hx⟩; rw [hre.out]; have b2 := o2.byt; clear o2; replace hv := hv.ext hx; replace f2 := f2.ext hx; replace hX := hX.trans hx; clear hx)
      | (go_at_call 30; refine (refRNums_no (m := 6) (by omega) hr6.out hs1.out hl1.out b2).mono ?_; rintro e w3 ⟨v1, v3, rfl, hx⟩; replace f2 := f2.ext hx; replace hX := hX.trans hx; clear hx)
      | ((with_reducible refine at_alloc ?_); refine w_agalloc Try.agMsg rfl rfl ?_; intro g2 w1 hg2 hX f2; replace hv := hv.ext hX)
      | ((with_reducible refine at_sbuild ?_); refine w_mbuild mZero rfl rfl rfl (by intro p hp; simp at hp) ?_)
      | ((with_reducible refine at_store ?_); refine w_agput Try.agMsg (us := mZero) (.tmp 2) _ rfl rfl rfl rfl rfl f2 rfl rfl (m_one (d := MsgD.zero) rfl) ?_; intro w9 hm f9; replace f2 := f9; replace hX := hm.after hX (fun i e => e ▸ hg2); clear hm f9)
      | fail) <;> (try simp only [Act.put, List.setIfInBounds_toArray, List.set_cons_zero, List.set_cons_succ]))
    exact bodyPost_ret (ag_two Try.agMsg rfl rfl rfl f2 rfl) rfl (No.out _ _ rfl hX)
  | some pr =>
    obtain ⟨xs, s⟩ := pr
    obtain ⟨hbs, hxl, _⟩ := rns_was 6 (rdRest b) xs s hs1.out hr0
    obtain ⟨k, f, i, y, x, p, rfl⟩ : ∃ k f i y x p, xs = [k, f, i, y, x, p] := by
      match xs, hxl with
      | [k, f, i, y, x, p], _ => exact ⟨k, f, i, y, x, p, rfl⟩
    have hs := hide_ (show ∀ z ∈ s, z < 256 from fun z hz => hs1.out z (by rw [hbs]; exact List.mem_append_right _ hz))
    have hslen := hide_ (show s.length ≤ 140737488355328 from by have := hl1.out; rw [hbs] at this; simp at this; omega)
    have hr6 := hide_ hr0
    have hraw0 := frB_raw hs1.out
    clear hbs hxl h0
    by_cases hk0 : k = 0
    · have t0 : (k == 0) = true := by simp [hk0]
      have hrd := rdMsg_rest hb (frB_c2 hr0 hk0)
      have hraw := hraw0
      rw [frB_c2 hr0 hk0] at hraw
      replace hraw := hide_ hraw
      obtain ⟨m, hm0⟩ : ∃ m : MsgD, m = ⟨k, f, i, y, x, p, tOr (rdTx s), BlkD.zero⟩ := ⟨_, rfl⟩
      have hm := hide_ hm0
      rw [← hm0] at hrd
      clear hm0 hr0 hraw0 hk0
      by_cases hr : m.Right
      rotate_left
      · have hnr := hide_ hr
        replace No := No (by rw [hrd, if_neg (fun h => hr h.1)])
        clear hr hrd
        go_enter Try.func16, Try.ntmps16
        go_wp2_with ((first
          | (go_at_call 29; refine (refReadNum_own _ b _ hb hv hlen).mono ?_; rintro e w2 ⟨v2, rfl, o2, hx⟩; rw [hre.out]; have b2 := o2.byt; clear o2; replace hv := hv.ext hx; replace f2 := f2.ext hx; replace hX := hX.trans hx; clear hx)
          | (go_at_call 30; refine (refRNums_yes (m := 6) (by omega) hr6.out hs1.out hl1.out b2).mono ?_; rintro e w3 ⟨v1, v3, rfl, i1, b3, hx⟩; clear b2; have b2 := b3; clear b3; replace hv := hv.ext hx; replace f2 := f2.ext hx; replace hX := hX.trans hx; clear hx)
          | ((with_reducible refine at_alloc ?_); refine w_agalloc Try.agMsg rfl rfl ?_; intro g2 w1 hg2 hX f2; replace hv := hv.ext hX)
          | fail) <;> (try simp only [Act.put, List.setIfInBounds_toArray, List.set_cons_zero, List.set_cons_succ]))
        refine wp_region_phx (by kernel_rfl) ?_; intro wd hxd; replace i1 := i1.ext hxd; replace b2 := b2.ext hxd; replace f2 := f2.ext hxd; replace hX := hX.trans hxd; replace hv := hv.ext hxd
        refine Ph.gate 0 20 (by kernel_rfl) ?_
        refine LinL.step (s := (.val (v1))) [(7, none)] rfl (by kernel_rfl) (op_out 7 (v1) rfl (.inl rfl) rfl) ?_
        refine LinL.step (s := (Sp.ptr (.int .i64 (k)))) [(31, some 0)] rfl (by kernel_rfl) (op_runs rfl fun σ w' hx hg => rptri (ρ := σ.eval) (w := w') (.tmp 31) (.const (.int .i64 0)) rfl hg.1 (i1.ext hx) 0 rfl (by simp) rfl) ?_
        refine LinL.step (s := (.val (.int .i64 (k : Int)))) [(32, some 0)] rfl (by kernel_rfl) (op_runs rfl fun σ w' hx hg => ⟨_, runs_load (ρ := σ.eval) (w := w') (.tmp 32) rfl Try.underlying3 rfl hg.1, rfl⟩) ?_
        refine LinL.step (s := (.val (v1))) [(7, none)] rfl (by kernel_rfl) (op_out 7 (v1) rfl (.inl rfl) rfl) ?_
        refine LinL.step (s := (Sp.ptr (.int .i64 (f)))) [(34, some 0)] rfl (by kernel_rfl) (op_runs rfl fun σ w' hx hg => rptri (ρ := σ.eval) (w := w') (.tmp 34) (.const (.int .i64 1)) rfl hg.1 (i1.ext hx) 1 rfl (by simp) rfl) ?_
        refine LinL.step (s := (.val (.int .i64 (f : Int)))) [(35, some 0)] rfl (by kernel_rfl) (op_runs rfl fun σ w' hx hg => ⟨_, runs_load (ρ := σ.eval) (w := w') (.tmp 35) rfl Try.underlying3 rfl hg.1, rfl⟩) ?_
        refine LinL.step (s := (.val (v1))) [(7, none)] rfl (by kernel_rfl) (op_out 7 (v1) rfl (.inl rfl) rfl) ?_
        refine LinL.step (s := (Sp.ptr (.int .i64 (i)))) [(37, some 0)] rfl (by kernel_rfl) (op_runs rfl fun σ w' hx hg => rptri (ρ := σ.eval) (w := w') (.tmp 37) (.const (.int .i64 2)) rfl hg.1 (i1.ext hx) 2 rfl (by simp) rfl) ?_
        refine LinL.step (s := (.val (.int .i64 (i : Int)))) [(38, some 0)] rfl (by kernel_rfl) (op_runs rfl fun σ w' hx hg => ⟨_, runs_load (ρ := σ.eval) (w := w') (.tmp 38) rfl Try.underlying3 rfl hg.1, rfl⟩) ?_
        refine LinL.step (s := (.val (v1))) [(7, none)] rfl (by kernel_rfl) (op_out 7 (v1) rfl (.inl rfl) rfl) ?_
        refine LinL.step (s := (Sp.ptr (.int .i64 (y)))) [(40, some 0)] rfl (by kernel_rfl) (op_runs rfl fun σ w' hx hg => rptri (ρ := σ.eval) (w := w') (.tmp 40) (.const (.int .i64 3)) rfl hg.1 (i1.ext hx) 3 rfl (by simp) rfl) ?_
        refine LinL.step (s := (.val (.int .i64 (y : Int)))) [(41, some 0)] rfl (by kernel_rfl) (op_runs rfl fun σ w' hx hg => ⟨_, runs_load (ρ := σ.eval) (w := w') (.tmp 41) rfl Try.underlying3 rfl hg.1, rfl⟩) ?_
        refine LinL.step (s := (.val (v1))) [(7, none)] rfl (by kernel_rfl) (op_out 7 (v1) rfl (.inl rfl) rfl) ?_
        refine LinL.step (s := (Sp.ptr (.int .i64 (x)))) [(43, some 0)] rfl (by kernel_rfl) (op_runs rfl fun σ w' hx hg => rptri (ρ := σ.eval) (w := w') (.tmp 43) (.const (.int .i64 4)) rfl hg.1 (i1.ext hx) 4 rfl (by simp) rfl) ?_
        refine LinL.step (s := (.val (.int .i64 (x : Int)))) [(44, some 0)] rfl (by kernel_rfl) (op_runs rfl fun σ w' hx hg => ⟨_, runs_load (ρ := σ.eval) (w := w') (.tmp 44) rfl Try.underlying3 rfl hg.1, rfl⟩) ?_
        refine LinL.step (s := (.val (v1))) [(7, none)] rfl (by kernel_rfl) (op_out 7 (v1) rfl (.inl rfl) rfl) ?_
        refine LinL.step (s := (Sp.ptr (.int .i64 (p)))) [(46, some 0)] rfl (by kernel_rfl) (op_runs rfl fun σ w' hx hg => rptri (ρ := σ.eval) (w := w') (.tmp 46) (.const (.int .i64 5)) rfl hg.1 (i1.ext hx) 5 rfl (by simp) rfl) ?_
        refine LinL.step (s := (.val (.int .i64 (p : Int)))) [(47, some 0)] rfl (by kernel_rfl) (op_runs rfl fun σ w' hx hg => ⟨_, runs_load (ρ := σ.eval) (w := w') (.tmp 47) rfl Try.underlying3 rfl hg.1, rfl⟩) ?_
        refine LinL.step (s := (.val (.agg #[.int .i64 k, .int .i64 f, .int .i64 i, .int .i64 y, .int .i64 x, .int .i64 p, .int .i64 0, .int .i64 0, .int .i64 0, .int .i64 0, .int .i64 0, .int .i64 0, .slice none 0 0]))) [(33, some 15), (36, some 12), (39, some 9), (42, some 6), (45, some 3), (48, some 0)] rfl (by kernel_rfl) (op_runs rfl fun σ w' hx hg => ⟨_, runs_mbuild (ρ := σ.eval) (w := w') [.int .i64 k, .int .i64 f, .int .i64 i, .int .i64 y, .int .i64 x, .int .i64 p, .int .i64 0, .int .i64 0, .int .i64 0, .int .i64 0, .int .i64 0, .int .i64 0, .slice none 0 0] (ps := #[(0, .tmp 33), (1, .tmp 36), (2, .tmp 39), (3, .tmp 42), (4, .tmp 45), (5, .tmp 48)]) rfl (by have h33 : σ.tmps.getD 33 undef = .int .i64 (k : Int) := hg.1; have h36 : σ.tmps.getD 36 undef = .int .i64 (f : Int) := hg.2.1; have h39 : σ.tmps.getD 39 undef = .int .i64 (i : Int) := hg.2.2.1; have h42 : σ.tmps.getD 42 undef = .int .i64 (y : Int) := hg.2.2.2.1; have h45 : σ.tmps.getD 45 undef = .int .i64 (x : Int) := hg.2.2.2.2.1; have h48 : σ.tmps.getD 48 undef = .int .i64 (p : Int) := hg.2.2.2.2.2.1; simp only [List.map_cons, List.map_nil, Act.eval, h33, h36, h39, h42, h45, h48, mZero, List.foldl_cons, List.foldl_nil, List.set_cons_zero, List.set_cons_succ]) (by have h33 : σ.tmps.getD 33 undef = .int .i64 (k : Int) := hg.1; have h36 : σ.tmps.getD 36 undef = .int .i64 (f : Int) := hg.2.1; have h39 : σ.tmps.getD 39 undef = .int .i64 (i : Int) := hg.2.2.1; have h42 : σ.tmps.getD 42 undef = .int .i64 (y : Int) := hg.2.2.2.1; have h45 : σ.tmps.getD 45 undef = .int .i64 (x : Int) := hg.2.2.2.2.1; have h48 : σ.tmps.getD 48 undef = .int .i64 (p : Int) := hg.2.2.2.2.2.1; intro p hp; simp at hp; rcases hp with rfl | rfl | rfl | rfl | rfl | rfl; exact ⟨by decide, by show (σ.tmps.getD 33 undef).cells = #[σ.tmps.getD 33 undef]; rw [h33]; exact rfl⟩; exact ⟨by decide, by show (σ.tmps.getD 36 undef).cells = #[σ.tmps.getD 36 undef]; rw [h36]; exact rfl⟩; exact ⟨by decide, by show (σ.tmps.getD 39 undef).cells = #[σ.tmps.getD 39 undef]; rw [h39]; exact rfl⟩; exact ⟨by decide, by show (σ.tmps.getD 42 undef).cells = #[σ.tmps.getD 42 undef]; rw [h42]; exact rfl⟩; exact ⟨by decide, by show (σ.tmps.getD 45 undef).cells = #[σ.tmps.getD 45 undef]; rw [h45]; exact rfl⟩; exact ⟨by decide, by show (σ.tmps.getD 48 undef).cells = #[σ.tmps.getD 48 undef]; rw [h48]; exact rfl⟩), rfl⟩) ?_
        refine LinL.step (s := (Sp.fs wd.heap.size mZero)) [] rfl (by kernel_rfl) (op_agalloc Try.agMsg (Nat.le_refl _) rfl rfl) ?_
        intro wN hxN
        simp only [Fin', Sp.ptr, Sp.fs, List.reverse_cons, List.reverse_nil, List.nil_append, List.cons_append, List.drop_zero, List.take_succ_cons, List.take_zero]
        intro q32 hq32 q35 hq35 q38 hq38 q41 hq41 q44 hq44 q47 hq47 q10 hq10
        simp only [Act.put, List.setIfInBounds_toArray, List.set_cons_zero, List.set_cons_succ]
        obtain ⟨g7, rfl, hg7, f7⟩ := hq10
        refine wpOp_of_list rfl ?_
        refine w_agput Try.agMsg (us := [.int .i64 k, .int .i64 f, .int .i64 i, .int .i64 y, .int .i64 x, .int .i64 p, .int .i64 0, .int .i64 0, .int .i64 0, .int .i64 0, .int .i64 0, .int .i64 0, .slice none 0 0]) _ _ rfl rfl rfl rfl rfl f7 rfl rfl (m_one (d := ⟨k, f, i, y, x, p, TxD.zero, BlkD.zero⟩) rfl) ?_; intro w8 hm8 f8
        replace f7 : Fs w8 g7 (mRow ⟨k, f, i, y, x, p, TxD.zero, BlkD.zero⟩ (.slice none 0 0)) := f8
        have hx8 : Ext wd w8 := hm8.after hxN (fun j e => e ▸ hg7)
        have hne := hide_ (show ¬ g2 = g7 from (by have := f2.lt; omega))
        replace f2 := f2.ext hx8; replace b2 := b2.ext hx8; replace hg7 := Nat.le_trans hX.size hg7; replace hX := hX.trans hx8; replace hv := hv.ext hx8
        show Ph Try.prog _ _ 21 _ _
        refine Ph.rest 21 0 (by kernel_rfl) ?_
        intro wN2 hxN2
        simp only [Fin', List.reverse_nil, List.drop_zero, List.drop_succ_cons, List.take_zero]
        replace f7 := f7.ext hxN2; replace f2 := f2.ext hxN2; replace b2 := b2.ext hxN2; replace hX := hX.trans hxN2; replace hv := hv.ext hxN2
        clear hxN2 hm8 hx8 hxN hxd i1 f8
        go_wp2_with ((first
          | go_big_skip
          | (go_at_call 31; refine (refTRead_any hs.out hslen.out b2).mono ?_; rintro e w3 ⟨rfl, hx⟩; replace f7 := f7.ext hx; replace hv := hv.ext hx; replace f2 := f2.ext hx; replace hX := hX.trans hx; clear hx)
          | (go_at_call 19; refine (refMBytes_no (d := m) (u := (.slice none 0 0)) hnr.out (by rw [hm.out]; exact (OwnT.nil 0 _).recs) (by rw [hm.out]; exact hraw.out.1) (by rw [hm.out]; exact hraw.out.2)).mono ?_; rintro e w4 ⟨rfl, hx⟩; replace f7 := f7.ext hx; replace hv := hv.ext hx; replace f2 := f2.ext hx; replace hX := hX.trans hx; clear hx)
          | ((with_reducible refine at_field ?_); (try refine w_yes _ _ _ rfl rfl rfl ?_); refine w_mfield _ _ _ rfl rfl rfl (by omega) ?_)
          | ((with_reducible refine at_store ?_); refine w_agstore Try.agTx (us := tRw (tOr (rdTx s))) _ _ rfl rfl rfl rfl rfl f7 rfl (show 6 + 2 ≤ 13 from by decide) (TxD.one _) ?_; intro w9 hm f9; replace hv := hv.modM f7 (mr_nob ⟨_, _, _, rfl⟩) hm; replace f7 : Fs w9 g7 (mRow ⟨k, f, i, y, x, p, tOr (rdTx s), BlkD.zero⟩ (.slice none 0 0)) := f9; replace f2 := f2.mod hm hne.out; replace hX := hm.after hX (fun i e => e ▸ hg7); clear hm f9)
          | ((with_reducible refine at_load ?_); refine w_loadN Try.stMsg _ (mRow m (.slice none 0 0)) rfl rfl rfl (by rw [hm.out]; exact f7) rfl mself_at ?_)
          | ((with_reducible refine at_load ?_); (try refine w_yes _ _ _ rfl rfl rfl ?_); refine w_fload _ rfl rfl rfl f7 rfl (agg_of (by kernel_rfl)) ?_)
          | ((with_reducible refine at_sbuild ?_); refine w_mbuild mZero rfl rfl rfl (by intro p hp; simp at hp) ?_)
          | ((with_reducible refine at_store ?_); refine w_agput Try.agMsg (us := mZero) (.tmp 2) _ rfl rfl rfl rfl rfl f2 rfl rfl (m_one (d := MsgD.zero) rfl) ?_; intro w9 hm f9; replace f2 := f9; replace hX := hm.after hX (fun i e => e ▸ hg2); clear hm f9)
          | fail) <;> (try simp only [Act.put, List.setIfInBounds_toArray, List.set_cons_zero, List.set_cons_succ]))
        exact bodyPost_ret (ag_two Try.agMsg rfl rfl rfl f2 rfl) rfl (No.out _ _ rfl hX)
      have hnr := hide_ hr
      by_cases he : m.bytes = b
      rotate_left
      · have hst : ((strN m.bytes).toList == (strN b).toList) = false := by rw [beq_eq_false_iff_ne]; exact strN_ne' m.bytes_lt hb he
        replace No := No (by rw [hrd, if_neg (fun h => he h.2)])
        clear hr he hrd
        go_enter Try.func16, Try.ntmps16
        go_wp2_with ((first
          | (go_at_call 29; refine (refReadNum_own _ b _ hb hv hlen).mono ?_; rintro e w2 ⟨v2, rfl, o2, hx⟩; rw [hre.out]; have b2 := o2.byt; clear o2; replace hv := hv.ext hx; replace f2 := f2.ext hx; replace hX := hX.trans hx; clear hx)
          | (go_at_call 30; refine (refRNums_yes (m := 6) (by omega) hr6.out hs1.out hl1.out b2).mono ?_; rintro e w3 ⟨v1, v3, rfl, i1, b3, hx⟩; clear b2; have b2 := b3; clear b3; replace hv := hv.ext hx; replace f2 := f2.ext hx; replace hX := hX.trans hx; clear hx)
          | ((with_reducible refine at_alloc ?_); refine w_agalloc Try.agMsg rfl rfl ?_; intro g2 w1 hg2 hX f2; replace hv := hv.ext hX)
          | fail) <;> (try simp only [Act.put, List.setIfInBounds_toArray, List.set_cons_zero, List.set_cons_succ]))
        refine wp_region_phx (by kernel_rfl) ?_; intro wd hxd; replace i1 := i1.ext hxd; replace b2 := b2.ext hxd; replace f2 := f2.ext hxd; replace hX := hX.trans hxd; replace hv := hv.ext hxd
        refine Ph.gate 0 20 (by kernel_rfl) ?_
        refine LinL.step (s := (.val (v1))) [(7, none)] rfl (by kernel_rfl) (op_out 7 (v1) rfl (.inl rfl) rfl) ?_
        refine LinL.step (s := (Sp.ptr (.int .i64 (k)))) [(31, some 0)] rfl (by kernel_rfl) (op_runs rfl fun σ w' hx hg => rptri (ρ := σ.eval) (w := w') (.tmp 31) (.const (.int .i64 0)) rfl hg.1 (i1.ext hx) 0 rfl (by simp) rfl) ?_
        refine LinL.step (s := (.val (.int .i64 (k : Int)))) [(32, some 0)] rfl (by kernel_rfl) (op_runs rfl fun σ w' hx hg => ⟨_, runs_load (ρ := σ.eval) (w := w') (.tmp 32) rfl Try.underlying3 rfl hg.1, rfl⟩) ?_
        refine LinL.step (s := (.val (v1))) [(7, none)] rfl (by kernel_rfl) (op_out 7 (v1) rfl (.inl rfl) rfl) ?_
        refine LinL.step (s := (Sp.ptr (.int .i64 (f)))) [(34, some 0)] rfl (by kernel_rfl) (op_runs rfl fun σ w' hx hg => rptri (ρ := σ.eval) (w := w') (.tmp 34) (.const (.int .i64 1)) rfl hg.1 (i1.ext hx) 1 rfl (by simp) rfl) ?_
        refine LinL.step (s := (.val (.int .i64 (f : Int)))) [(35, some 0)] rfl (by kernel_rfl) (op_runs rfl fun σ w' hx hg => ⟨_, runs_load (ρ := σ.eval) (w := w') (.tmp 35) rfl Try.underlying3 rfl hg.1, rfl⟩) ?_
        refine LinL.step (s := (.val (v1))) [(7, none)] rfl (by kernel_rfl) (op_out 7 (v1) rfl (.inl rfl) rfl) ?_
        refine LinL.step (s := (Sp.ptr (.int .i64 (i)))) [(37, some 0)] rfl (by kernel_rfl) (op_runs rfl fun σ w' hx hg => rptri (ρ := σ.eval) (w := w') (.tmp 37) (.const (.int .i64 2)) rfl hg.1 (i1.ext hx) 2 rfl (by simp) rfl) ?_
        refine LinL.step (s := (.val (.int .i64 (i : Int)))) [(38, some 0)] rfl (by kernel_rfl) (op_runs rfl fun σ w' hx hg => ⟨_, runs_load (ρ := σ.eval) (w := w') (.tmp 38) rfl Try.underlying3 rfl hg.1, rfl⟩) ?_
        refine LinL.step (s := (.val (v1))) [(7, none)] rfl (by kernel_rfl) (op_out 7 (v1) rfl (.inl rfl) rfl) ?_
        refine LinL.step (s := (Sp.ptr (.int .i64 (y)))) [(40, some 0)] rfl (by kernel_rfl) (op_runs rfl fun σ w' hx hg => rptri (ρ := σ.eval) (w := w') (.tmp 40) (.const (.int .i64 3)) rfl hg.1 (i1.ext hx) 3 rfl (by simp) rfl) ?_
        refine LinL.step (s := (.val (.int .i64 (y : Int)))) [(41, some 0)] rfl (by kernel_rfl) (op_runs rfl fun σ w' hx hg => ⟨_, runs_load (ρ := σ.eval) (w := w') (.tmp 41) rfl Try.underlying3 rfl hg.1, rfl⟩) ?_
        refine LinL.step (s := (.val (v1))) [(7, none)] rfl (by kernel_rfl) (op_out 7 (v1) rfl (.inl rfl) rfl) ?_
        refine LinL.step (s := (Sp.ptr (.int .i64 (x)))) [(43, some 0)] rfl (by kernel_rfl) (op_runs rfl fun σ w' hx hg => rptri (ρ := σ.eval) (w := w') (.tmp 43) (.const (.int .i64 4)) rfl hg.1 (i1.ext hx) 4 rfl (by simp) rfl) ?_
        refine LinL.step (s := (.val (.int .i64 (x : Int)))) [(44, some 0)] rfl (by kernel_rfl) (op_runs rfl fun σ w' hx hg => ⟨_, runs_load (ρ := σ.eval) (w := w') (.tmp 44) rfl Try.underlying3 rfl hg.1, rfl⟩) ?_
        refine LinL.step (s := (.val (v1))) [(7, none)] rfl (by kernel_rfl) (op_out 7 (v1) rfl (.inl rfl) rfl) ?_
        refine LinL.step (s := (Sp.ptr (.int .i64 (p)))) [(46, some 0)] rfl (by kernel_rfl) (op_runs rfl fun σ w' hx hg => rptri (ρ := σ.eval) (w := w') (.tmp 46) (.const (.int .i64 5)) rfl hg.1 (i1.ext hx) 5 rfl (by simp) rfl) ?_
        refine LinL.step (s := (.val (.int .i64 (p : Int)))) [(47, some 0)] rfl (by kernel_rfl) (op_runs rfl fun σ w' hx hg => ⟨_, runs_load (ρ := σ.eval) (w := w') (.tmp 47) rfl Try.underlying3 rfl hg.1, rfl⟩) ?_
        refine LinL.step (s := (.val (.agg #[.int .i64 k, .int .i64 f, .int .i64 i, .int .i64 y, .int .i64 x, .int .i64 p, .int .i64 0, .int .i64 0, .int .i64 0, .int .i64 0, .int .i64 0, .int .i64 0, .slice none 0 0]))) [(33, some 15), (36, some 12), (39, some 9), (42, some 6), (45, some 3), (48, some 0)] rfl (by kernel_rfl) (op_runs rfl fun σ w' hx hg => ⟨_, runs_mbuild (ρ := σ.eval) (w := w') [.int .i64 k, .int .i64 f, .int .i64 i, .int .i64 y, .int .i64 x, .int .i64 p, .int .i64 0, .int .i64 0, .int .i64 0, .int .i64 0, .int .i64 0, .int .i64 0, .slice none 0 0] (ps := #[(0, .tmp 33), (1, .tmp 36), (2, .tmp 39), (3, .tmp 42), (4, .tmp 45), (5, .tmp 48)]) rfl (by have h33 : σ.tmps.getD 33 undef = .int .i64 (k : Int) := hg.1; have h36 : σ.tmps.getD 36 undef = .int .i64 (f : Int) := hg.2.1; have h39 : σ.tmps.getD 39 undef = .int .i64 (i : Int) := hg.2.2.1; have h42 : σ.tmps.getD 42 undef = .int .i64 (y : Int) := hg.2.2.2.1; have h45 : σ.tmps.getD 45 undef = .int .i64 (x : Int) := hg.2.2.2.2.1; have h48 : σ.tmps.getD 48 undef = .int .i64 (p : Int) := hg.2.2.2.2.2.1; simp only [List.map_cons, List.map_nil, Act.eval, h33, h36, h39, h42, h45, h48, mZero, List.foldl_cons, List.foldl_nil, List.set_cons_zero, List.set_cons_succ]) (by have h33 : σ.tmps.getD 33 undef = .int .i64 (k : Int) := hg.1; have h36 : σ.tmps.getD 36 undef = .int .i64 (f : Int) := hg.2.1; have h39 : σ.tmps.getD 39 undef = .int .i64 (i : Int) := hg.2.2.1; have h42 : σ.tmps.getD 42 undef = .int .i64 (y : Int) := hg.2.2.2.1; have h45 : σ.tmps.getD 45 undef = .int .i64 (x : Int) := hg.2.2.2.2.1; have h48 : σ.tmps.getD 48 undef = .int .i64 (p : Int) := hg.2.2.2.2.2.1; intro p hp; simp at hp; rcases hp with rfl | rfl | rfl | rfl | rfl | rfl; exact ⟨by decide, by show (σ.tmps.getD 33 undef).cells = #[σ.tmps.getD 33 undef]; rw [h33]; exact rfl⟩; exact ⟨by decide, by show (σ.tmps.getD 36 undef).cells = #[σ.tmps.getD 36 undef]; rw [h36]; exact rfl⟩; exact ⟨by decide, by show (σ.tmps.getD 39 undef).cells = #[σ.tmps.getD 39 undef]; rw [h39]; exact rfl⟩; exact ⟨by decide, by show (σ.tmps.getD 42 undef).cells = #[σ.tmps.getD 42 undef]; rw [h42]; exact rfl⟩; exact ⟨by decide, by show (σ.tmps.getD 45 undef).cells = #[σ.tmps.getD 45 undef]; rw [h45]; exact rfl⟩; exact ⟨by decide, by show (σ.tmps.getD 48 undef).cells = #[σ.tmps.getD 48 undef]; rw [h48]; exact rfl⟩), rfl⟩) ?_
        refine LinL.step (s := (Sp.fs wd.heap.size mZero)) [] rfl (by kernel_rfl) (op_agalloc Try.agMsg (Nat.le_refl _) rfl rfl) ?_
        intro wN hxN
        simp only [Fin', Sp.ptr, Sp.fs, List.reverse_cons, List.reverse_nil, List.nil_append, List.cons_append, List.drop_zero, List.take_succ_cons, List.take_zero]
        intro q32 hq32 q35 hq35 q38 hq38 q41 hq41 q44 hq44 q47 hq47 q10 hq10
        simp only [Act.put, List.setIfInBounds_toArray, List.set_cons_zero, List.set_cons_succ]
        obtain ⟨g7, rfl, hg7, f7⟩ := hq10
        refine wpOp_of_list rfl ?_
        refine w_agput Try.agMsg (us := [.int .i64 k, .int .i64 f, .int .i64 i, .int .i64 y, .int .i64 x, .int .i64 p, .int .i64 0, .int .i64 0, .int .i64 0, .int .i64 0, .int .i64 0, .int .i64 0, .slice none 0 0]) _ _ rfl rfl rfl rfl rfl f7 rfl rfl (m_one (d := ⟨k, f, i, y, x, p, TxD.zero, BlkD.zero⟩) rfl) ?_; intro w8 hm8 f8
        replace f7 : Fs w8 g7 (mRow ⟨k, f, i, y, x, p, TxD.zero, BlkD.zero⟩ (.slice none 0 0)) := f8
        have hx8 : Ext wd w8 := hm8.after hxN (fun j e => e ▸ hg7)
        have hne := hide_ (show ¬ g2 = g7 from (by have := f2.lt; omega))
        replace f2 := f2.ext hx8; replace b2 := b2.ext hx8; replace hg7 := Nat.le_trans hX.size hg7; replace hX := hX.trans hx8; replace hv := hv.ext hx8
        show Ph Try.prog _ _ 21 _ _
        refine Ph.rest 21 0 (by kernel_rfl) ?_
        intro wN2 hxN2
        simp only [Fin', List.reverse_nil, List.drop_zero, List.drop_succ_cons, List.take_zero]
        replace f7 := f7.ext hxN2; replace f2 := f2.ext hxN2; replace b2 := b2.ext hxN2; replace hX := hX.trans hxN2; replace hv := hv.ext hxN2
        clear hxN2 hm8 hx8 hxN hxd i1 f8
        go_wp2_with ((first
          | go_big_skip
          | (go_at_call 31; refine (refTRead_any hs.out hslen.out b2).mono ?_; rintro e w3 ⟨rfl, hx⟩; replace f7 := f7.ext hx; replace hv := hv.ext hx; replace f2 := f2.ext hx; replace hX := hX.trans hx; clear hx)
          | (go_at_call 19; refine (refMBytes_yes (d := m) (u := (.slice none 0 0)) hnr.out (by rw [hm.out]; exact (OwnT.nil 0 _).recs) (by rw [hm.out]; exact hraw.out.1) (by rw [hm.out]; exact hraw.out.2)).mono ?_; rintro e w4 ⟨v11, rfl, o11, hx⟩; have b11 := o11.byt; clear o11; replace f7 := f7.ext hx; replace hv := hv.ext hx; replace f2 := f2.ext hx; replace hX := hX.trans hx; clear hx)
          | ((with_reducible refine at_field ?_); (try refine w_yes _ _ _ rfl rfl rfl ?_); refine w_mfield _ _ _ rfl rfl rfl (by omega) ?_)
          | ((with_reducible refine at_conv ?_); (try refine w_yes _ _ _ rfl rfl rfl ?_); refine w_str _ rfl rfl (v := v11) rfl b11 ?_)
          | ((with_reducible refine at_conv ?_); (try refine w_yes _ _ _ rfl rfl rfl ?_); refine w_str _ rfl rfl (v := v) rfl hv ?_)
          | ((with_reducible refine at_store ?_); refine w_agstore Try.agTx (us := tRw (tOr (rdTx s))) _ _ rfl rfl rfl rfl rfl f7 rfl (show 6 + 2 ≤ 13 from by decide) (TxD.one _) ?_; intro w9 hm f9; replace hv := hv.modM f7 (mr_nob ⟨_, _, _, rfl⟩) hm; replace f7 : Fs w9 g7 (mRow ⟨k, f, i, y, x, p, tOr (rdTx s), BlkD.zero⟩ (.slice none 0 0)) := f9; replace f2 := f2.mod hm hne.out; replace hX := hm.after hX (fun i e => e ▸ hg7); clear hm f9)
          | ((with_reducible refine at_load ?_); refine w_loadN Try.stMsg _ (mRow m (.slice none 0 0)) rfl rfl rfl (by rw [hm.out]; exact f7) rfl mself_at ?_)
          | ((with_reducible refine at_load ?_); (try refine w_yes _ _ _ rfl rfl rfl ?_); refine w_fload _ rfl rfl rfl f7 rfl (agg_of (by kernel_rfl)) ?_)
          | ((with_reducible refine at_sbuild ?_); refine w_mbuild mZero rfl rfl rfl (by intro p hp; simp at hp) ?_)
          | ((with_reducible refine at_store ?_); refine w_agput Try.agMsg (us := mZero) (.tmp 2) _ rfl rfl rfl rfl rfl f2 rfl rfl (m_one (d := MsgD.zero) rfl) ?_; intro w9 hm f9; replace f2 := f9; replace hX := hm.after hX (fun i e => e ▸ hg2); clear hm f9)
          | fail) <;> (try simp only [Act.put, List.setIfInBounds_toArray, List.set_cons_zero, List.set_cons_succ]))
        exact bodyPost_ret (ag_two Try.agMsg rfl rfl rfl f2 rfl) rfl (No.out _ _ rfl hX)
      have hfin := hide_ (show rdMsg b = some m from by rw [hrd, if_pos ⟨hr, he⟩])
      have hst : ((strN m.bytes).toList == (strN b).toList) = true := by rw [he]; simp
      clear hr he hrd No
      go_enter Try.func16, Try.ntmps16
      go_wp2_with ((first
        | (go_at_call 29; refine (refReadNum_own _ b _ hb hv hlen).mono ?_; rintro e w2 ⟨v2, rfl, o2, hx⟩; rw [hre.out]; have b2 := o2.byt; clear o2; replace hv := hv.ext hx; replace f2 := f2.ext hx; replace hX := hX.trans hx; clear hx)
        | (go_at_call 30; refine (refRNums_yes (m := 6) (by omega) hr6.out hs1.out hl1.out b2).mono ?_; rintro e w3 ⟨v1, v3, rfl, i1, b3, hx⟩; clear b2; have b2 := b3; clear b3; replace hv := hv.ext hx; replace f2 := f2.ext hx; replace hX := hX.trans hx; clear hx)
        | ((with_reducible refine at_alloc ?_); refine w_agalloc Try.agMsg rfl rfl ?_; intro g2 w1 hg2 hX f2; replace hv := hv.ext hX)
        | fail) <;> (try simp only [Act.put, List.setIfInBounds_toArray, List.set_cons_zero, List.set_cons_succ]))
      refine wp_region_phx (by kernel_rfl) ?_; intro wd hxd; replace i1 := i1.ext hxd; replace b2 := b2.ext hxd; replace f2 := f2.ext hxd; replace hX := hX.trans hxd; replace hv := hv.ext hxd
      refine Ph.gate 0 20 (by kernel_rfl) ?_
      refine LinL.step (s := (.val (v1))) [(7, none)] rfl (by kernel_rfl) (op_out 7 (v1) rfl (.inl rfl) rfl) ?_
      refine LinL.step (s := (Sp.ptr (.int .i64 (k)))) [(31, some 0)] rfl (by kernel_rfl) (op_runs rfl fun σ w' hx hg => rptri (ρ := σ.eval) (w := w') (.tmp 31) (.const (.int .i64 0)) rfl hg.1 (i1.ext hx) 0 rfl (by simp) rfl) ?_
      refine LinL.step (s := (.val (.int .i64 (k : Int)))) [(32, some 0)] rfl (by kernel_rfl) (op_runs rfl fun σ w' hx hg => ⟨_, runs_load (ρ := σ.eval) (w := w') (.tmp 32) rfl Try.underlying3 rfl hg.1, rfl⟩) ?_
      refine LinL.step (s := (.val (v1))) [(7, none)] rfl (by kernel_rfl) (op_out 7 (v1) rfl (.inl rfl) rfl) ?_
      refine LinL.step (s := (Sp.ptr (.int .i64 (f)))) [(34, some 0)] rfl (by kernel_rfl) (op_runs rfl fun σ w' hx hg => rptri (ρ := σ.eval) (w := w') (.tmp 34) (.const (.int .i64 1)) rfl hg.1 (i1.ext hx) 1 rfl (by simp) rfl) ?_
      refine LinL.step (s := (.val (.int .i64 (f : Int)))) [(35, some 0)] rfl (by kernel_rfl) (op_runs rfl fun σ w' hx hg => ⟨_, runs_load (ρ := σ.eval) (w := w') (.tmp 35) rfl Try.underlying3 rfl hg.1, rfl⟩) ?_
      refine LinL.step (s := (.val (v1))) [(7, none)] rfl (by kernel_rfl) (op_out 7 (v1) rfl (.inl rfl) rfl) ?_
      refine LinL.step (s := (Sp.ptr (.int .i64 (i)))) [(37, some 0)] rfl (by kernel_rfl) (op_runs rfl fun σ w' hx hg => rptri (ρ := σ.eval) (w := w') (.tmp 37) (.const (.int .i64 2)) rfl hg.1 (i1.ext hx) 2 rfl (by simp) rfl) ?_
      refine LinL.step (s := (.val (.int .i64 (i : Int)))) [(38, some 0)] rfl (by kernel_rfl) (op_runs rfl fun σ w' hx hg => ⟨_, runs_load (ρ := σ.eval) (w := w') (.tmp 38) rfl Try.underlying3 rfl hg.1, rfl⟩) ?_
      refine LinL.step (s := (.val (v1))) [(7, none)] rfl (by kernel_rfl) (op_out 7 (v1) rfl (.inl rfl) rfl) ?_
      refine LinL.step (s := (Sp.ptr (.int .i64 (y)))) [(40, some 0)] rfl (by kernel_rfl) (op_runs rfl fun σ w' hx hg => rptri (ρ := σ.eval) (w := w') (.tmp 40) (.const (.int .i64 3)) rfl hg.1 (i1.ext hx) 3 rfl (by simp) rfl) ?_
      refine LinL.step (s := (.val (.int .i64 (y : Int)))) [(41, some 0)] rfl (by kernel_rfl) (op_runs rfl fun σ w' hx hg => ⟨_, runs_load (ρ := σ.eval) (w := w') (.tmp 41) rfl Try.underlying3 rfl hg.1, rfl⟩) ?_
      refine LinL.step (s := (.val (v1))) [(7, none)] rfl (by kernel_rfl) (op_out 7 (v1) rfl (.inl rfl) rfl) ?_
      refine LinL.step (s := (Sp.ptr (.int .i64 (x)))) [(43, some 0)] rfl (by kernel_rfl) (op_runs rfl fun σ w' hx hg => rptri (ρ := σ.eval) (w := w') (.tmp 43) (.const (.int .i64 4)) rfl hg.1 (i1.ext hx) 4 rfl (by simp) rfl) ?_
      refine LinL.step (s := (.val (.int .i64 (x : Int)))) [(44, some 0)] rfl (by kernel_rfl) (op_runs rfl fun σ w' hx hg => ⟨_, runs_load (ρ := σ.eval) (w := w') (.tmp 44) rfl Try.underlying3 rfl hg.1, rfl⟩) ?_
      refine LinL.step (s := (.val (v1))) [(7, none)] rfl (by kernel_rfl) (op_out 7 (v1) rfl (.inl rfl) rfl) ?_
      refine LinL.step (s := (Sp.ptr (.int .i64 (p)))) [(46, some 0)] rfl (by kernel_rfl) (op_runs rfl fun σ w' hx hg => rptri (ρ := σ.eval) (w := w') (.tmp 46) (.const (.int .i64 5)) rfl hg.1 (i1.ext hx) 5 rfl (by simp) rfl) ?_
      refine LinL.step (s := (.val (.int .i64 (p : Int)))) [(47, some 0)] rfl (by kernel_rfl) (op_runs rfl fun σ w' hx hg => ⟨_, runs_load (ρ := σ.eval) (w := w') (.tmp 47) rfl Try.underlying3 rfl hg.1, rfl⟩) ?_
      refine LinL.step (s := (.val (.agg #[.int .i64 k, .int .i64 f, .int .i64 i, .int .i64 y, .int .i64 x, .int .i64 p, .int .i64 0, .int .i64 0, .int .i64 0, .int .i64 0, .int .i64 0, .int .i64 0, .slice none 0 0]))) [(33, some 15), (36, some 12), (39, some 9), (42, some 6), (45, some 3), (48, some 0)] rfl (by kernel_rfl) (op_runs rfl fun σ w' hx hg => ⟨_, runs_mbuild (ρ := σ.eval) (w := w') [.int .i64 k, .int .i64 f, .int .i64 i, .int .i64 y, .int .i64 x, .int .i64 p, .int .i64 0, .int .i64 0, .int .i64 0, .int .i64 0, .int .i64 0, .int .i64 0, .slice none 0 0] (ps := #[(0, .tmp 33), (1, .tmp 36), (2, .tmp 39), (3, .tmp 42), (4, .tmp 45), (5, .tmp 48)]) rfl (by have h33 : σ.tmps.getD 33 undef = .int .i64 (k : Int) := hg.1; have h36 : σ.tmps.getD 36 undef = .int .i64 (f : Int) := hg.2.1; have h39 : σ.tmps.getD 39 undef = .int .i64 (i : Int) := hg.2.2.1; have h42 : σ.tmps.getD 42 undef = .int .i64 (y : Int) := hg.2.2.2.1; have h45 : σ.tmps.getD 45 undef = .int .i64 (x : Int) := hg.2.2.2.2.1; have h48 : σ.tmps.getD 48 undef = .int .i64 (p : Int) := hg.2.2.2.2.2.1; simp only [List.map_cons, List.map_nil, Act.eval, h33, h36, h39, h42, h45, h48, mZero, List.foldl_cons, List.foldl_nil, List.set_cons_zero, List.set_cons_succ]) (by have h33 : σ.tmps.getD 33 undef = .int .i64 (k : Int) := hg.1; have h36 : σ.tmps.getD 36 undef = .int .i64 (f : Int) := hg.2.1; have h39 : σ.tmps.getD 39 undef = .int .i64 (i : Int) := hg.2.2.1; have h42 : σ.tmps.getD 42 undef = .int .i64 (y : Int) := hg.2.2.2.1; have h45 : σ.tmps.getD 45 undef = .int .i64 (x : Int) := hg.2.2.2.2.1; have h48 : σ.tmps.getD 48 undef = .int .i64 (p : Int) := hg.2.2.2.2.2.1; intro p hp; simp at hp; rcases hp with rfl | rfl | rfl | rfl | rfl | rfl; exact ⟨by decide, by show (σ.tmps.getD 33 undef).cells = #[σ.tmps.getD 33 undef]; rw [h33]; exact rfl⟩; exact ⟨by decide, by show (σ.tmps.getD 36 undef).cells = #[σ.tmps.getD 36 undef]; rw [h36]; exact rfl⟩; exact ⟨by decide, by show (σ.tmps.getD 39 undef).cells = #[σ.tmps.getD 39 undef]; rw [h39]; exact rfl⟩; exact ⟨by decide, by show (σ.tmps.getD 42 undef).cells = #[σ.tmps.getD 42 undef]; rw [h42]; exact rfl⟩; exact ⟨by decide, by show (σ.tmps.getD 45 undef).cells = #[σ.tmps.getD 45 undef]; rw [h45]; exact rfl⟩; exact ⟨by decide, by show (σ.tmps.getD 48 undef).cells = #[σ.tmps.getD 48 undef]; rw [h48]; exact rfl⟩), rfl⟩) ?_
      refine LinL.step (s := (Sp.fs wd.heap.size mZero)) [] rfl (by kernel_rfl) (op_agalloc Try.agMsg (Nat.le_refl _) rfl rfl) ?_
      intro wN hxN
      simp only [Fin', Sp.ptr, Sp.fs, List.reverse_cons, List.reverse_nil, List.nil_append, List.cons_append, List.drop_zero, List.take_succ_cons, List.take_zero]
      intro q32 hq32 q35 hq35 q38 hq38 q41 hq41 q44 hq44 q47 hq47 q10 hq10
      simp only [Act.put, List.setIfInBounds_toArray, List.set_cons_zero, List.set_cons_succ]
      obtain ⟨g7, rfl, hg7, f7⟩ := hq10
      refine wpOp_of_list rfl ?_
      refine w_agput Try.agMsg (us := [.int .i64 k, .int .i64 f, .int .i64 i, .int .i64 y, .int .i64 x, .int .i64 p, .int .i64 0, .int .i64 0, .int .i64 0, .int .i64 0, .int .i64 0, .int .i64 0, .slice none 0 0]) _ _ rfl rfl rfl rfl rfl f7 rfl rfl (m_one (d := ⟨k, f, i, y, x, p, TxD.zero, BlkD.zero⟩) rfl) ?_; intro w8 hm8 f8
      replace f7 : Fs w8 g7 (mRow ⟨k, f, i, y, x, p, TxD.zero, BlkD.zero⟩ (.slice none 0 0)) := f8
      have hx8 : Ext wd w8 := hm8.after hxN (fun j e => e ▸ hg7)
      have hne := hide_ (show ¬ g2 = g7 from (by have := f2.lt; omega))
      replace f2 := f2.ext hx8; replace b2 := b2.ext hx8; replace hg7 := Nat.le_trans hX.size hg7; replace hX := hX.trans hx8; replace hv := hv.ext hx8
      show Ph Try.prog _ _ 21 _ _
      refine Ph.rest 21 0 (by kernel_rfl) ?_
      intro wN2 hxN2
      simp only [Fin', List.reverse_nil, List.drop_zero, List.drop_succ_cons, List.take_zero]
      replace f7 := f7.ext hxN2; replace f2 := f2.ext hxN2; replace b2 := b2.ext hxN2; replace hX := hX.trans hxN2; replace hv := hv.ext hxN2
      clear hxN2 hm8 hx8 hxN hxd i1 f8
      go_wp2_with ((first
        | go_big_skip
        | (go_at_call 31; refine (refTRead_any hs.out hslen.out b2).mono ?_; rintro e w3 ⟨rfl, hx⟩; replace f7 := f7.ext hx; replace hv := hv.ext hx; replace f2 := f2.ext hx; replace hX := hX.trans hx; clear hx)
        | (go_at_call 19; refine (refMBytes_yes (d := m) (u := (.slice none 0 0)) hnr.out (by rw [hm.out]; exact (OwnT.nil 0 _).recs) (by rw [hm.out]; exact hraw.out.1) (by rw [hm.out]; exact hraw.out.2)).mono ?_; rintro e w4 ⟨v11, rfl, o11, hx⟩; have b11 := o11.byt; clear o11; replace f7 := f7.ext hx; replace hv := hv.ext hx; replace f2 := f2.ext hx; replace hX := hX.trans hx; clear hx)
        | ((with_reducible refine at_field ?_); (try refine w_yes _ _ _ rfl rfl rfl ?_); refine w_mfield _ _ _ rfl rfl rfl (by omega) ?_)
        | ((with_reducible refine at_conv ?_); (try refine w_yes _ _ _ rfl rfl rfl ?_); refine w_str _ rfl rfl (v := v11) rfl b11 ?_)
        | ((with_reducible refine at_conv ?_); (try refine w_yes _ _ _ rfl rfl rfl ?_); refine w_str _ rfl rfl (v := v) rfl hv ?_)
        | ((with_reducible refine at_store ?_); refine w_agstore Try.agTx (us := tRw (tOr (rdTx s))) _ _ rfl rfl rfl rfl rfl f7 rfl (show 6 + 2 ≤ 13 from by decide) (TxD.one _) ?_; intro w9 hm f9; replace hv := hv.modM f7 (mr_nob ⟨_, _, _, rfl⟩) hm; replace f7 : Fs w9 g7 (mRow ⟨k, f, i, y, x, p, tOr (rdTx s), BlkD.zero⟩ (.slice none 0 0)) := f9; replace f2 := f2.mod hm hne.out; replace hX := hm.after hX (fun i e => e ▸ hg7); clear hm f9)
        | ((with_reducible refine at_load ?_); refine w_loadN Try.stMsg _ (mRow m (.slice none 0 0)) rfl rfl rfl (by rw [hm.out]; exact f7) rfl mself_at ?_)
        | ((with_reducible refine at_load ?_); (try refine w_yes _ _ _ rfl rfl rfl ?_); refine w_fload _ rfl rfl rfl f7 rfl (agg_of (by kernel_rfl)) ?_)
        | ((with_reducible refine at_store ?_); refine w_agput Try.agMsg (us := mRow m (.slice none 0 0)) (.tmp 2) _ rfl rfl rfl rfl rfl f2 rfl rfl (m_one rfl) ?_; intro w9 hm9 f9; replace f2 := f9; replace hX := hm9.after hX (fun i e => e ▸ hg2); clear hm9 f9)
        | fail) <;> (try simp only [Act.put, List.setIfInBounds_toArray, List.set_cons_zero, List.set_cons_succ]))
      exact bodyPost_ret (ag_two Try.agMsg rfl rfl rfl f2 rfl) rfl (Keep.intro ⟨(.slice none 0 0), by rw [hfin.out]; rfl, hX, by rw [hfin.out]; show OwnT _ _ _ m.bk.txs; rw [hm.out]; exact OwnT.nil _ _⟩)
    by_cases hk1 : k = 1
    · have t0 : (k == 0) = false := by simp [hk1]
      have t1 : (k == 1) = true := by simp [hk1]
      have hrd := rdMsg_rest hb (frB_c3 hr0 hk1)
      have hraw := hraw0
      rw [frB_c3 hr0 hk1] at hraw
      replace hraw := hide_ hraw
      obtain ⟨m, hm0⟩ : ∃ m : MsgD, m = ⟨k, f, i, y, x, p, TxD.zero, bOr (rdBlk s)⟩ := ⟨_, rfl⟩
      have hm := hide_ hm0
      rw [← hm0] at hrd
      clear hm0 hr0 hraw0 hk0 hk1
      by_cases hr : m.Right
      rotate_left
      · have hnr := hide_ hr
        replace No := No (by rw [hrd, if_neg (fun h => hr h.1)])
        clear hr hrd
        go_enter Try.func16, Try.ntmps16
        go_wp2_with ((first
          | (go_at_call 29; refine (refReadNum_own _ b _ hb hv hlen).mono ?_; rintro e w2 ⟨v2, rfl, o2, hx⟩; rw [hre.out]; have b2 := o2.byt; clear o2; replace hv := hv.ext hx; replace f2 := f2.ext hx; replace hX := hX.trans hx; clear hx)
          | (go_at_call 30; refine (refRNums_yes (m := 6) (by omega) hr6.out hs1.out hl1.out b2).mono ?_; rintro e w3 ⟨v1, v3, rfl, i1, b3, hx⟩; clear b2; have b2 := b3; clear b3; replace hv := hv.ext hx; replace f2 := f2.ext hx; replace hX := hX.trans hx; clear hx)
          | ((with_reducible refine at_alloc ?_); refine w_agalloc Try.agMsg rfl rfl ?_; intro g2 w1 hg2 hX f2; replace hv := hv.ext hX)
          | fail) <;> (try simp only [Act.put, List.setIfInBounds_toArray, List.set_cons_zero, List.set_cons_succ]))
        refine wp_region_phx (by kernel_rfl) ?_; intro wd hxd; replace i1 := i1.ext hxd; replace b2 := b2.ext hxd; replace f2 := f2.ext hxd; replace hX := hX.trans hxd; replace hv := hv.ext hxd
        refine Ph.gate 0 20 (by kernel_rfl) ?_
        refine LinL.step (s := (.val (v1))) [(7, none)] rfl (by kernel_rfl) (op_out 7 (v1) rfl (.inl rfl) rfl) ?_
        refine LinL.step (s := (Sp.ptr (.int .i64 (k)))) [(31, some 0)] rfl (by kernel_rfl) (op_runs rfl fun σ w' hx hg => rptri (ρ := σ.eval) (w := w') (.tmp 31) (.const (.int .i64 0)) rfl hg.1 (i1.ext hx) 0 rfl (by simp) rfl) ?_
        refine LinL.step (s := (.val (.int .i64 (k : Int)))) [(32, some 0)] rfl (by kernel_rfl) (op_runs rfl fun σ w' hx hg => ⟨_, runs_load (ρ := σ.eval) (w := w') (.tmp 32) rfl Try.underlying3 rfl hg.1, rfl⟩) ?_
        refine LinL.step (s := (.val (v1))) [(7, none)] rfl (by kernel_rfl) (op_out 7 (v1) rfl (.inl rfl) rfl) ?_
        refine LinL.step (s := (Sp.ptr (.int .i64 (f)))) [(34, some 0)] rfl (by kernel_rfl) (op_runs rfl fun σ w' hx hg => rptri (ρ := σ.eval) (w := w') (.tmp 34) (.const (.int .i64 1)) rfl hg.1 (i1.ext hx) 1 rfl (by simp) rfl) ?_
        refine LinL.step (s := (.val (.int .i64 (f : Int)))) [(35, some 0)] rfl (by kernel_rfl) (op_runs rfl fun σ w' hx hg => ⟨_, runs_load (ρ := σ.eval) (w := w') (.tmp 35) rfl Try.underlying3 rfl hg.1, rfl⟩) ?_
        refine LinL.step (s := (.val (v1))) [(7, none)] rfl (by kernel_rfl) (op_out 7 (v1) rfl (.inl rfl) rfl) ?_
        refine LinL.step (s := (Sp.ptr (.int .i64 (i)))) [(37, some 0)] rfl (by kernel_rfl) (op_runs rfl fun σ w' hx hg => rptri (ρ := σ.eval) (w := w') (.tmp 37) (.const (.int .i64 2)) rfl hg.1 (i1.ext hx) 2 rfl (by simp) rfl) ?_
        refine LinL.step (s := (.val (.int .i64 (i : Int)))) [(38, some 0)] rfl (by kernel_rfl) (op_runs rfl fun σ w' hx hg => ⟨_, runs_load (ρ := σ.eval) (w := w') (.tmp 38) rfl Try.underlying3 rfl hg.1, rfl⟩) ?_
        refine LinL.step (s := (.val (v1))) [(7, none)] rfl (by kernel_rfl) (op_out 7 (v1) rfl (.inl rfl) rfl) ?_
        refine LinL.step (s := (Sp.ptr (.int .i64 (y)))) [(40, some 0)] rfl (by kernel_rfl) (op_runs rfl fun σ w' hx hg => rptri (ρ := σ.eval) (w := w') (.tmp 40) (.const (.int .i64 3)) rfl hg.1 (i1.ext hx) 3 rfl (by simp) rfl) ?_
        refine LinL.step (s := (.val (.int .i64 (y : Int)))) [(41, some 0)] rfl (by kernel_rfl) (op_runs rfl fun σ w' hx hg => ⟨_, runs_load (ρ := σ.eval) (w := w') (.tmp 41) rfl Try.underlying3 rfl hg.1, rfl⟩) ?_
        refine LinL.step (s := (.val (v1))) [(7, none)] rfl (by kernel_rfl) (op_out 7 (v1) rfl (.inl rfl) rfl) ?_
        refine LinL.step (s := (Sp.ptr (.int .i64 (x)))) [(43, some 0)] rfl (by kernel_rfl) (op_runs rfl fun σ w' hx hg => rptri (ρ := σ.eval) (w := w') (.tmp 43) (.const (.int .i64 4)) rfl hg.1 (i1.ext hx) 4 rfl (by simp) rfl) ?_
        refine LinL.step (s := (.val (.int .i64 (x : Int)))) [(44, some 0)] rfl (by kernel_rfl) (op_runs rfl fun σ w' hx hg => ⟨_, runs_load (ρ := σ.eval) (w := w') (.tmp 44) rfl Try.underlying3 rfl hg.1, rfl⟩) ?_
        refine LinL.step (s := (.val (v1))) [(7, none)] rfl (by kernel_rfl) (op_out 7 (v1) rfl (.inl rfl) rfl) ?_
        refine LinL.step (s := (Sp.ptr (.int .i64 (p)))) [(46, some 0)] rfl (by kernel_rfl) (op_runs rfl fun σ w' hx hg => rptri (ρ := σ.eval) (w := w') (.tmp 46) (.const (.int .i64 5)) rfl hg.1 (i1.ext hx) 5 rfl (by simp) rfl) ?_
        refine LinL.step (s := (.val (.int .i64 (p : Int)))) [(47, some 0)] rfl (by kernel_rfl) (op_runs rfl fun σ w' hx hg => ⟨_, runs_load (ρ := σ.eval) (w := w') (.tmp 47) rfl Try.underlying3 rfl hg.1, rfl⟩) ?_
        refine LinL.step (s := (.val (.agg #[.int .i64 k, .int .i64 f, .int .i64 i, .int .i64 y, .int .i64 x, .int .i64 p, .int .i64 0, .int .i64 0, .int .i64 0, .int .i64 0, .int .i64 0, .int .i64 0, .slice none 0 0]))) [(33, some 15), (36, some 12), (39, some 9), (42, some 6), (45, some 3), (48, some 0)] rfl (by kernel_rfl) (op_runs rfl fun σ w' hx hg => ⟨_, runs_mbuild (ρ := σ.eval) (w := w') [.int .i64 k, .int .i64 f, .int .i64 i, .int .i64 y, .int .i64 x, .int .i64 p, .int .i64 0, .int .i64 0, .int .i64 0, .int .i64 0, .int .i64 0, .int .i64 0, .slice none 0 0] (ps := #[(0, .tmp 33), (1, .tmp 36), (2, .tmp 39), (3, .tmp 42), (4, .tmp 45), (5, .tmp 48)]) rfl (by have h33 : σ.tmps.getD 33 undef = .int .i64 (k : Int) := hg.1; have h36 : σ.tmps.getD 36 undef = .int .i64 (f : Int) := hg.2.1; have h39 : σ.tmps.getD 39 undef = .int .i64 (i : Int) := hg.2.2.1; have h42 : σ.tmps.getD 42 undef = .int .i64 (y : Int) := hg.2.2.2.1; have h45 : σ.tmps.getD 45 undef = .int .i64 (x : Int) := hg.2.2.2.2.1; have h48 : σ.tmps.getD 48 undef = .int .i64 (p : Int) := hg.2.2.2.2.2.1; simp only [List.map_cons, List.map_nil, Act.eval, h33, h36, h39, h42, h45, h48, mZero, List.foldl_cons, List.foldl_nil, List.set_cons_zero, List.set_cons_succ]) (by have h33 : σ.tmps.getD 33 undef = .int .i64 (k : Int) := hg.1; have h36 : σ.tmps.getD 36 undef = .int .i64 (f : Int) := hg.2.1; have h39 : σ.tmps.getD 39 undef = .int .i64 (i : Int) := hg.2.2.1; have h42 : σ.tmps.getD 42 undef = .int .i64 (y : Int) := hg.2.2.2.1; have h45 : σ.tmps.getD 45 undef = .int .i64 (x : Int) := hg.2.2.2.2.1; have h48 : σ.tmps.getD 48 undef = .int .i64 (p : Int) := hg.2.2.2.2.2.1; intro p hp; simp at hp; rcases hp with rfl | rfl | rfl | rfl | rfl | rfl; exact ⟨by decide, by show (σ.tmps.getD 33 undef).cells = #[σ.tmps.getD 33 undef]; rw [h33]; exact rfl⟩; exact ⟨by decide, by show (σ.tmps.getD 36 undef).cells = #[σ.tmps.getD 36 undef]; rw [h36]; exact rfl⟩; exact ⟨by decide, by show (σ.tmps.getD 39 undef).cells = #[σ.tmps.getD 39 undef]; rw [h39]; exact rfl⟩; exact ⟨by decide, by show (σ.tmps.getD 42 undef).cells = #[σ.tmps.getD 42 undef]; rw [h42]; exact rfl⟩; exact ⟨by decide, by show (σ.tmps.getD 45 undef).cells = #[σ.tmps.getD 45 undef]; rw [h45]; exact rfl⟩; exact ⟨by decide, by show (σ.tmps.getD 48 undef).cells = #[σ.tmps.getD 48 undef]; rw [h48]; exact rfl⟩), rfl⟩) ?_
        refine LinL.step (s := (Sp.fs wd.heap.size mZero)) [] rfl (by kernel_rfl) (op_agalloc Try.agMsg (Nat.le_refl _) rfl rfl) ?_
        intro wN hxN
        simp only [Fin', Sp.ptr, Sp.fs, List.reverse_cons, List.reverse_nil, List.nil_append, List.cons_append, List.drop_zero, List.take_succ_cons, List.take_zero]
        intro q32 hq32 q35 hq35 q38 hq38 q41 hq41 q44 hq44 q47 hq47 q10 hq10
        simp only [Act.put, List.setIfInBounds_toArray, List.set_cons_zero, List.set_cons_succ]
        obtain ⟨g7, rfl, hg7, f7⟩ := hq10
        refine wpOp_of_list rfl ?_
        refine w_agput Try.agMsg (us := [.int .i64 k, .int .i64 f, .int .i64 i, .int .i64 y, .int .i64 x, .int .i64 p, .int .i64 0, .int .i64 0, .int .i64 0, .int .i64 0, .int .i64 0, .int .i64 0, .slice none 0 0]) _ _ rfl rfl rfl rfl rfl f7 rfl rfl (m_one (d := ⟨k, f, i, y, x, p, TxD.zero, BlkD.zero⟩) rfl) ?_; intro w8 hm8 f8
        replace f7 : Fs w8 g7 (mRow ⟨k, f, i, y, x, p, TxD.zero, BlkD.zero⟩ (.slice none 0 0)) := f8
        have hx8 : Ext wd w8 := hm8.after hxN (fun j e => e ▸ hg7)
        have hne := hide_ (show ¬ g2 = g7 from (by have := f2.lt; omega))
        replace f2 := f2.ext hx8; replace b2 := b2.ext hx8; replace hg7 := Nat.le_trans hX.size hg7; replace hX := hX.trans hx8; replace hv := hv.ext hx8
        show Ph Try.prog _ _ 21 _ _
        refine Ph.rest 21 0 (by kernel_rfl) ?_
        intro wN2 hxN2
        simp only [Fin', List.reverse_nil, List.drop_zero, List.drop_succ_cons, List.take_zero]
        replace f7 := f7.ext hxN2; replace f2 := f2.ext hxN2; replace b2 := b2.ext hxN2; replace hX := hX.trans hxN2; replace hv := hv.ext hxN2
        clear hxN2 hm8 hx8 hxN hxd i1 f8
        go_wp2_with ((first
          | go_big_skip
          | (go_at_call 32; refine (refBRead_any hs.out hslen.out b2).mono ?_; rintro e w3 ⟨u, rfl, hx, o3⟩; have n2 : ∀ k, u.ownBlock = some k → ¬ k = g2 := (fun k hk e => by have := o3.new k hk; have := f2.lt; omega); have n7 : ∀ k, u.ownBlock = some k → ¬ k = g7 := (fun k hk e => by have := o3.new k hk; have := f7.lt; omega); replace o3 := o3.mono hX.size; replace f7 := f7.ext hx; replace hv := hv.ext hx; replace f2 := f2.ext hx; replace hX := hX.trans hx; clear hx)
          | (go_at_call 19; refine (refMBytes_no (d := m) (u := u) hnr.out (by rw [hm.out]; exact o3.recs) (by rw [hm.out]; exact hraw.out.1) (by rw [hm.out]; exact hraw.out.2)).mono ?_; rintro e w4 ⟨rfl, hx⟩; replace o3 := o3.ext hx; replace f7 := f7.ext hx; replace hv := hv.ext hx; replace f2 := f2.ext hx; replace hX := hX.trans hx; clear hx)
          | ((with_reducible refine at_field ?_); (try refine w_yes _ _ _ rfl rfl rfl ?_); refine w_mfield _ _ _ rfl rfl rfl (by omega) ?_)
          | ((with_reducible refine at_store ?_); refine w_agstore Try.agBlk (us := bRw (bOr (rdBlk s)) u) _ _ rfl rfl rfl rfl rfl f7 rfl (show 8 + 5 ≤ 13 from by decide) (b_one o3.recs.one') ?_; intro w9 hm f9; replace hv := hv.modM f7 (mr_nob ⟨_, _, _, rfl⟩) hm; replace f7 : Fs w9 g7 (mRow ⟨k, f, i, y, x, p, TxD.zero, bOr (rdBlk s)⟩ u) := f9; replace f2 := f2.mod hm hne.out; replace o3 := o3.mod hm (fun k hk e => n7 k hk e); replace hX := hm.after hX (fun i e => e ▸ hg7); clear hm f9)
          | ((with_reducible refine at_load ?_); have ce := o3; clear ce; refine w_loadN Try.stMsg _ (mRow m u) rfl rfl rfl (by rw [hm.out]; exact f7) rfl mself_at ?_)
          | ((with_reducible refine at_load ?_); (try refine w_yes _ _ _ rfl rfl rfl ?_); refine w_fload _ rfl rfl rfl f7 rfl (agg_of (by kernel_rfl)) ?_)
          | ((with_reducible refine at_sbuild ?_); refine w_mbuild mZero rfl rfl rfl (by intro p hp; simp at hp) ?_)
          | ((with_reducible refine at_store ?_); refine w_agput Try.agMsg (us := mZero) (.tmp 2) _ rfl rfl rfl rfl rfl f2 rfl rfl (m_one (d := MsgD.zero) rfl) ?_; intro w9 hm f9; replace f2 := f9; replace hX := hm.after hX (fun i e => e ▸ hg2); clear hm f9)
          | fail) <;> (try simp only [Act.put, List.setIfInBounds_toArray, List.set_cons_zero, List.set_cons_succ]))
        exact bodyPost_ret (ag_two Try.agMsg rfl rfl rfl f2 rfl) rfl (No.out _ _ rfl hX)
      have hnr := hide_ hr
      by_cases he : m.bytes = b
      rotate_left
      · have hst : ((strN m.bytes).toList == (strN b).toList) = false := by rw [beq_eq_false_iff_ne]; exact strN_ne' m.bytes_lt hb he
        replace No := No (by rw [hrd, if_neg (fun h => he h.2)])
        clear hr he hrd
        go_enter Try.func16, Try.ntmps16
        go_wp2_with ((first
          | (go_at_call 29; refine (refReadNum_own _ b _ hb hv hlen).mono ?_; rintro e w2 ⟨v2, rfl, o2, hx⟩; rw [hre.out]; have b2 := o2.byt; clear o2; replace hv := hv.ext hx; replace f2 := f2.ext hx; replace hX := hX.trans hx; clear hx)
          | (go_at_call 30; refine (refRNums_yes (m := 6) (by omega) hr6.out hs1.out hl1.out b2).mono ?_; rintro e w3 ⟨v1, v3, rfl, i1, b3, hx⟩; clear b2; have b2 := b3; clear b3; replace hv := hv.ext hx; replace f2 := f2.ext hx; replace hX := hX.trans hx; clear hx)
          | ((with_reducible refine at_alloc ?_); refine w_agalloc Try.agMsg rfl rfl ?_; intro g2 w1 hg2 hX f2; replace hv := hv.ext hX)
          | fail) <;> (try simp only [Act.put, List.setIfInBounds_toArray, List.set_cons_zero, List.set_cons_succ]))
        refine wp_region_phx (by kernel_rfl) ?_; intro wd hxd; replace i1 := i1.ext hxd; replace b2 := b2.ext hxd; replace f2 := f2.ext hxd; replace hX := hX.trans hxd; replace hv := hv.ext hxd
        refine Ph.gate 0 20 (by kernel_rfl) ?_
        refine LinL.step (s := (.val (v1))) [(7, none)] rfl (by kernel_rfl) (op_out 7 (v1) rfl (.inl rfl) rfl) ?_
        refine LinL.step (s := (Sp.ptr (.int .i64 (k)))) [(31, some 0)] rfl (by kernel_rfl) (op_runs rfl fun σ w' hx hg => rptri (ρ := σ.eval) (w := w') (.tmp 31) (.const (.int .i64 0)) rfl hg.1 (i1.ext hx) 0 rfl (by simp) rfl) ?_
        refine LinL.step (s := (.val (.int .i64 (k : Int)))) [(32, some 0)] rfl (by kernel_rfl) (op_runs rfl fun σ w' hx hg => ⟨_, runs_load (ρ := σ.eval) (w := w') (.tmp 32) rfl Try.underlying3 rfl hg.1, rfl⟩) ?_
        refine LinL.step (s := (.val (v1))) [(7, none)] rfl (by kernel_rfl) (op_out 7 (v1) rfl (.inl rfl) rfl) ?_
        refine LinL.step (s := (Sp.ptr (.int .i64 (f)))) [(34, some 0)] rfl (by kernel_rfl) (op_runs rfl fun σ w' hx hg => rptri (ρ := σ.eval) (w := w') (.tmp 34) (.const (.int .i64 1)) rfl hg.1 (i1.ext hx) 1 rfl (by simp) rfl) ?_
        refine LinL.step (s := (.val (.int .i64 (f : Int)))) [(35, some 0)] rfl (by kernel_rfl) (op_runs rfl fun σ w' hx hg => ⟨_, runs_load (ρ := σ.eval) (w := w') (.tmp 35) rfl Try.underlying3 rfl hg.1, rfl⟩) ?_
        refine LinL.step (s := (.val (v1))) [(7, none)] rfl (by kernel_rfl) (op_out 7 (v1) rfl (.inl rfl) rfl) ?_
        refine LinL.step (s := (Sp.ptr (.int .i64 (i)))) [(37, some 0)] rfl (by kernel_rfl) (op_runs rfl fun σ w' hx hg => rptri (ρ := σ.eval) (w := w') (.tmp 37) (.const (.int .i64 2)) rfl hg.1 (i1.ext hx) 2 rfl (by simp) rfl) ?_
        refine LinL.step (s := (.val (.int .i64 (i : Int)))) [(38, some 0)] rfl (by kernel_rfl) (op_runs rfl fun σ w' hx hg => ⟨_, runs_load (ρ := σ.eval) (w := w') (.tmp 38) rfl Try.underlying3 rfl hg.1, rfl⟩) ?_
        refine LinL.step (s := (.val (v1))) [(7, none)] rfl (by kernel_rfl) (op_out 7 (v1) rfl (.inl rfl) rfl) ?_
        refine LinL.step (s := (Sp.ptr (.int .i64 (y)))) [(40, some 0)] rfl (by kernel_rfl) (op_runs rfl fun σ w' hx hg => rptri (ρ := σ.eval) (w := w') (.tmp 40) (.const (.int .i64 3)) rfl hg.1 (i1.ext hx) 3 rfl (by simp) rfl) ?_
        refine LinL.step (s := (.val (.int .i64 (y : Int)))) [(41, some 0)] rfl (by kernel_rfl) (op_runs rfl fun σ w' hx hg => ⟨_, runs_load (ρ := σ.eval) (w := w') (.tmp 41) rfl Try.underlying3 rfl hg.1, rfl⟩) ?_
        refine LinL.step (s := (.val (v1))) [(7, none)] rfl (by kernel_rfl) (op_out 7 (v1) rfl (.inl rfl) rfl) ?_
        refine LinL.step (s := (Sp.ptr (.int .i64 (x)))) [(43, some 0)] rfl (by kernel_rfl) (op_runs rfl fun σ w' hx hg => rptri (ρ := σ.eval) (w := w') (.tmp 43) (.const (.int .i64 4)) rfl hg.1 (i1.ext hx) 4 rfl (by simp) rfl) ?_
        refine LinL.step (s := (.val (.int .i64 (x : Int)))) [(44, some 0)] rfl (by kernel_rfl) (op_runs rfl fun σ w' hx hg => ⟨_, runs_load (ρ := σ.eval) (w := w') (.tmp 44) rfl Try.underlying3 rfl hg.1, rfl⟩) ?_
        refine LinL.step (s := (.val (v1))) [(7, none)] rfl (by kernel_rfl) (op_out 7 (v1) rfl (.inl rfl) rfl) ?_
        refine LinL.step (s := (Sp.ptr (.int .i64 (p)))) [(46, some 0)] rfl (by kernel_rfl) (op_runs rfl fun σ w' hx hg => rptri (ρ := σ.eval) (w := w') (.tmp 46) (.const (.int .i64 5)) rfl hg.1 (i1.ext hx) 5 rfl (by simp) rfl) ?_
        refine LinL.step (s := (.val (.int .i64 (p : Int)))) [(47, some 0)] rfl (by kernel_rfl) (op_runs rfl fun σ w' hx hg => ⟨_, runs_load (ρ := σ.eval) (w := w') (.tmp 47) rfl Try.underlying3 rfl hg.1, rfl⟩) ?_
        refine LinL.step (s := (.val (.agg #[.int .i64 k, .int .i64 f, .int .i64 i, .int .i64 y, .int .i64 x, .int .i64 p, .int .i64 0, .int .i64 0, .int .i64 0, .int .i64 0, .int .i64 0, .int .i64 0, .slice none 0 0]))) [(33, some 15), (36, some 12), (39, some 9), (42, some 6), (45, some 3), (48, some 0)] rfl (by kernel_rfl) (op_runs rfl fun σ w' hx hg => ⟨_, runs_mbuild (ρ := σ.eval) (w := w') [.int .i64 k, .int .i64 f, .int .i64 i, .int .i64 y, .int .i64 x, .int .i64 p, .int .i64 0, .int .i64 0, .int .i64 0, .int .i64 0, .int .i64 0, .int .i64 0, .slice none 0 0] (ps := #[(0, .tmp 33), (1, .tmp 36), (2, .tmp 39), (3, .tmp 42), (4, .tmp 45), (5, .tmp 48)]) rfl (by have h33 : σ.tmps.getD 33 undef = .int .i64 (k : Int) := hg.1; have h36 : σ.tmps.getD 36 undef = .int .i64 (f : Int) := hg.2.1; have h39 : σ.tmps.getD 39 undef = .int .i64 (i : Int) := hg.2.2.1; have h42 : σ.tmps.getD 42 undef = .int .i64 (y : Int) := hg.2.2.2.1; have h45 : σ.tmps.getD 45 undef = .int .i64 (x : Int) := hg.2.2.2.2.1; have h48 : σ.tmps.getD 48 undef = .int .i64 (p : Int) := hg.2.2.2.2.2.1; simp only [List.map_cons, List.map_nil, Act.eval, h33, h36, h39, h42, h45, h48, mZero, List.foldl_cons, List.foldl_nil, List.set_cons_zero, List.set_cons_succ]) (by have h33 : σ.tmps.getD 33 undef = .int .i64 (k : Int) := hg.1; have h36 : σ.tmps.getD 36 undef = .int .i64 (f : Int) := hg.2.1; have h39 : σ.tmps.getD 39 undef = .int .i64 (i : Int) := hg.2.2.1; have h42 : σ.tmps.getD 42 undef = .int .i64 (y : Int) := hg.2.2.2.1; have h45 : σ.tmps.getD 45 undef = .int .i64 (x : Int) := hg.2.2.2.2.1; have h48 : σ.tmps.getD 48 undef = .int .i64 (p : Int) := hg.2.2.2.2.2.1; intro p hp; simp at hp; rcases hp with rfl | rfl | rfl | rfl | rfl | rfl; exact ⟨by decide, by show (σ.tmps.getD 33 undef).cells = #[σ.tmps.getD 33 undef]; rw [h33]; exact rfl⟩; exact ⟨by decide, by show (σ.tmps.getD 36 undef).cells = #[σ.tmps.getD 36 undef]; rw [h36]; exact rfl⟩; exact ⟨by decide, by show (σ.tmps.getD 39 undef).cells = #[σ.tmps.getD 39 undef]; rw [h39]; exact rfl⟩; exact ⟨by decide, by show (σ.tmps.getD 42 undef).cells = #[σ.tmps.getD 42 undef]; rw [h42]; exact rfl⟩; exact ⟨by decide, by show (σ.tmps.getD 45 undef).cells = #[σ.tmps.getD 45 undef]; rw [h45]; exact rfl⟩; exact ⟨by decide, by show (σ.tmps.getD 48 undef).cells = #[σ.tmps.getD 48 undef]; rw [h48]; exact rfl⟩), rfl⟩) ?_
        refine LinL.step (s := (Sp.fs wd.heap.size mZero)) [] rfl (by kernel_rfl) (op_agalloc Try.agMsg (Nat.le_refl _) rfl rfl) ?_
        intro wN hxN
        simp only [Fin', Sp.ptr, Sp.fs, List.reverse_cons, List.reverse_nil, List.nil_append, List.cons_append, List.drop_zero, List.take_succ_cons, List.take_zero]
        intro q32 hq32 q35 hq35 q38 hq38 q41 hq41 q44 hq44 q47 hq47 q10 hq10
        simp only [Act.put, List.setIfInBounds_toArray, List.set_cons_zero, List.set_cons_succ]
        obtain ⟨g7, rfl, hg7, f7⟩ := hq10
        refine wpOp_of_list rfl ?_
        refine w_agput Try.agMsg (us := [.int .i64 k, .int .i64 f, .int .i64 i, .int .i64 y, .int .i64 x, .int .i64 p, .int .i64 0, .int .i64 0, .int .i64 0, .int .i64 0, .int .i64 0, .int .i64 0, .slice none 0 0]) _ _ rfl rfl rfl rfl rfl f7 rfl rfl (m_one (d := ⟨k, f, i, y, x, p, TxD.zero, BlkD.zero⟩) rfl) ?_; intro w8 hm8 f8
        replace f7 : Fs w8 g7 (mRow ⟨k, f, i, y, x, p, TxD.zero, BlkD.zero⟩ (.slice none 0 0)) := f8
        have hx8 : Ext wd w8 := hm8.after hxN (fun j e => e ▸ hg7)
        have hne := hide_ (show ¬ g2 = g7 from (by have := f2.lt; omega))
        replace f2 := f2.ext hx8; replace b2 := b2.ext hx8; replace hg7 := Nat.le_trans hX.size hg7; replace hX := hX.trans hx8; replace hv := hv.ext hx8
        show Ph Try.prog _ _ 21 _ _
        refine Ph.rest 21 0 (by kernel_rfl) ?_
        intro wN2 hxN2
        simp only [Fin', List.reverse_nil, List.drop_zero, List.drop_succ_cons, List.take_zero]
        replace f7 := f7.ext hxN2; replace f2 := f2.ext hxN2; replace b2 := b2.ext hxN2; replace hX := hX.trans hxN2; replace hv := hv.ext hxN2
        clear hxN2 hm8 hx8 hxN hxd i1 f8
        go_wp2_with ((first
          | go_big_skip
          | (go_at_call 32; refine (refBRead_any hs.out hslen.out b2).mono ?_; rintro e w3 ⟨u, rfl, hx, o3⟩; have n2 : ∀ k, u.ownBlock = some k → ¬ k = g2 := (fun k hk e => by have := o3.new k hk; have := f2.lt; omega); have n7 : ∀ k, u.ownBlock = some k → ¬ k = g7 := (fun k hk e => by have := o3.new k hk; have := f7.lt; omega); replace o3 := o3.mono hX.size; replace f7 := f7.ext hx; replace hv := hv.ext hx; replace f2 := f2.ext hx; replace hX := hX.trans hx; clear hx)
          | (go_at_call 19; refine (refMBytes_yes (d := m) (u := u) hnr.out (by rw [hm.out]; exact o3.recs) (by rw [hm.out]; exact hraw.out.1) (by rw [hm.out]; exact hraw.out.2)).mono ?_; rintro e w4 ⟨v11, rfl, o11, hx⟩; have b11 := o11.byt; clear o11; replace o3 := o3.ext hx; replace f7 := f7.ext hx; replace hv := hv.ext hx; replace f2 := f2.ext hx; replace hX := hX.trans hx; clear hx)
          | ((with_reducible refine at_field ?_); (try refine w_yes _ _ _ rfl rfl rfl ?_); refine w_mfield _ _ _ rfl rfl rfl (by omega) ?_)
          | ((with_reducible refine at_conv ?_); (try refine w_yes _ _ _ rfl rfl rfl ?_); refine w_str _ rfl rfl (v := v11) rfl b11 ?_)
          | ((with_reducible refine at_conv ?_); (try refine w_yes _ _ _ rfl rfl rfl ?_); refine w_str _ rfl rfl (v := v) rfl hv ?_)
          | ((with_reducible refine at_store ?_); refine w_agstore Try.agBlk (us := bRw (bOr (rdBlk s)) u) _ _ rfl rfl rfl rfl rfl f7 rfl (show 8 + 5 ≤ 13 from by decide) (b_one o3.recs.one') ?_; intro w9 hm f9; replace hv := hv.modM f7 (mr_nob ⟨_, _, _, rfl⟩) hm; replace f7 : Fs w9 g7 (mRow ⟨k, f, i, y, x, p, TxD.zero, bOr (rdBlk s)⟩ u) := f9; replace f2 := f2.mod hm hne.out; replace o3 := o3.mod hm (fun k hk e => n7 k hk e); replace hX := hm.after hX (fun i e => e ▸ hg7); clear hm f9)
          | ((with_reducible refine at_load ?_); have ce := o3; clear ce; refine w_loadN Try.stMsg _ (mRow m u) rfl rfl rfl (by rw [hm.out]; exact f7) rfl mself_at ?_)
          | ((with_reducible refine at_load ?_); (try refine w_yes _ _ _ rfl rfl rfl ?_); refine w_fload _ rfl rfl rfl f7 rfl (agg_of (by kernel_rfl)) ?_)
          | ((with_reducible refine at_sbuild ?_); refine w_mbuild mZero rfl rfl rfl (by intro p hp; simp at hp) ?_)
          | ((with_reducible refine at_store ?_); refine w_agput Try.agMsg (us := mZero) (.tmp 2) _ rfl rfl rfl rfl rfl f2 rfl rfl (m_one (d := MsgD.zero) rfl) ?_; intro w9 hm f9; replace f2 := f9; replace hX := hm.after hX (fun i e => e ▸ hg2); clear hm f9)
          | fail) <;> (try simp only [Act.put, List.setIfInBounds_toArray, List.set_cons_zero, List.set_cons_succ]))
        exact bodyPost_ret (ag_two Try.agMsg rfl rfl rfl f2 rfl) rfl (No.out _ _ rfl hX)
      have hfin := hide_ (show rdMsg b = some m from by rw [hrd, if_pos ⟨hr, he⟩])
      have hst : ((strN m.bytes).toList == (strN b).toList) = true := by rw [he]; simp
      clear hr he hrd No
      go_enter Try.func16, Try.ntmps16
      go_wp2_with ((first
        | (go_at_call 29; refine (refReadNum_own _ b _ hb hv hlen).mono ?_; rintro e w2 ⟨v2, rfl, o2, hx⟩; rw [hre.out]; have b2 := o2.byt; clear o2; replace hv := hv.ext hx; replace f2 := f2.ext hx; replace hX := hX.trans hx; clear hx)
        | (go_at_call 30; refine (refRNums_yes (m := 6) (by omega) hr6.out hs1.out hl1.out b2).mono ?_; rintro e w3 ⟨v1, v3, rfl, i1, b3, hx⟩; clear b2; have b2 := b3; clear b3; replace hv := hv.ext hx; replace f2 := f2.ext hx; replace hX := hX.trans hx; clear hx)
        | ((with_reducible refine at_alloc ?_); refine w_agalloc Try.agMsg rfl rfl ?_; intro g2 w1 hg2 hX f2; replace hv := hv.ext hX)
        | fail) <;> (try simp only [Act.put, List.setIfInBounds_toArray, List.set_cons_zero, List.set_cons_succ]))
      refine wp_region_phx (by kernel_rfl) ?_; intro wd hxd; replace i1 := i1.ext hxd; replace b2 := b2.ext hxd; replace f2 := f2.ext hxd; replace hX := hX.trans hxd; replace hv := hv.ext hxd
      refine Ph.gate 0 20 (by kernel_rfl) ?_
      refine LinL.step (s := (.val (v1))) [(7, none)] rfl (by kernel_rfl) (op_out 7 (v1) rfl (.inl rfl) rfl) ?_
      refine LinL.step (s := (Sp.ptr (.int .i64 (k)))) [(31, some 0)] rfl (by kernel_rfl) (op_runs rfl fun σ w' hx hg => rptri (ρ := σ.eval) (w := w') (.tmp 31) (.const (.int .i64 0)) rfl hg.1 (i1.ext hx) 0 rfl (by simp) rfl) ?_
      refine LinL.step (s := (.val (.int .i64 (k : Int)))) [(32, some 0)] rfl (by kernel_rfl) (op_runs rfl fun σ w' hx hg => ⟨_, runs_load (ρ := σ.eval) (w := w') (.tmp 32) rfl Try.underlying3 rfl hg.1, rfl⟩) ?_
      refine LinL.step (s := (.val (v1))) [(7, none)] rfl (by kernel_rfl) (op_out 7 (v1) rfl (.inl rfl) rfl) ?_
      refine LinL.step (s := (Sp.ptr (.int .i64 (f)))) [(34, some 0)] rfl (by kernel_rfl) (op_runs rfl fun σ w' hx hg => rptri (ρ := σ.eval) (w := w') (.tmp 34) (.const (.int .i64 1)) rfl hg.1 (i1.ext hx) 1 rfl (by simp) rfl) ?_
      refine LinL.step (s := (.val (.int .i64 (f : Int)))) [(35, some 0)] rfl (by kernel_rfl) (op_runs rfl fun σ w' hx hg => ⟨_, runs_load (ρ := σ.eval) (w := w') (.tmp 35) rfl Try.underlying3 rfl hg.1, rfl⟩) ?_
      refine LinL.step (s := (.val (v1))) [(7, none)] rfl (by kernel_rfl) (op_out 7 (v1) rfl (.inl rfl) rfl) ?_
      refine LinL.step (s := (Sp.ptr (.int .i64 (i)))) [(37, some 0)] rfl (by kernel_rfl) (op_runs rfl fun σ w' hx hg => rptri (ρ := σ.eval) (w := w') (.tmp 37) (.const (.int .i64 2)) rfl hg.1 (i1.ext hx) 2 rfl (by simp) rfl) ?_
      refine LinL.step (s := (.val (.int .i64 (i : Int)))) [(38, some 0)] rfl (by kernel_rfl) (op_runs rfl fun σ w' hx hg => ⟨_, runs_load (ρ := σ.eval) (w := w') (.tmp 38) rfl Try.underlying3 rfl hg.1, rfl⟩) ?_
      refine LinL.step (s := (.val (v1))) [(7, none)] rfl (by kernel_rfl) (op_out 7 (v1) rfl (.inl rfl) rfl) ?_
      refine LinL.step (s := (Sp.ptr (.int .i64 (y)))) [(40, some 0)] rfl (by kernel_rfl) (op_runs rfl fun σ w' hx hg => rptri (ρ := σ.eval) (w := w') (.tmp 40) (.const (.int .i64 3)) rfl hg.1 (i1.ext hx) 3 rfl (by simp) rfl) ?_
      refine LinL.step (s := (.val (.int .i64 (y : Int)))) [(41, some 0)] rfl (by kernel_rfl) (op_runs rfl fun σ w' hx hg => ⟨_, runs_load (ρ := σ.eval) (w := w') (.tmp 41) rfl Try.underlying3 rfl hg.1, rfl⟩) ?_
      refine LinL.step (s := (.val (v1))) [(7, none)] rfl (by kernel_rfl) (op_out 7 (v1) rfl (.inl rfl) rfl) ?_
      refine LinL.step (s := (Sp.ptr (.int .i64 (x)))) [(43, some 0)] rfl (by kernel_rfl) (op_runs rfl fun σ w' hx hg => rptri (ρ := σ.eval) (w := w') (.tmp 43) (.const (.int .i64 4)) rfl hg.1 (i1.ext hx) 4 rfl (by simp) rfl) ?_
      refine LinL.step (s := (.val (.int .i64 (x : Int)))) [(44, some 0)] rfl (by kernel_rfl) (op_runs rfl fun σ w' hx hg => ⟨_, runs_load (ρ := σ.eval) (w := w') (.tmp 44) rfl Try.underlying3 rfl hg.1, rfl⟩) ?_
      refine LinL.step (s := (.val (v1))) [(7, none)] rfl (by kernel_rfl) (op_out 7 (v1) rfl (.inl rfl) rfl) ?_
      refine LinL.step (s := (Sp.ptr (.int .i64 (p)))) [(46, some 0)] rfl (by kernel_rfl) (op_runs rfl fun σ w' hx hg => rptri (ρ := σ.eval) (w := w') (.tmp 46) (.const (.int .i64 5)) rfl hg.1 (i1.ext hx) 5 rfl (by simp) rfl) ?_
      refine LinL.step (s := (.val (.int .i64 (p : Int)))) [(47, some 0)] rfl (by kernel_rfl) (op_runs rfl fun σ w' hx hg => ⟨_, runs_load (ρ := σ.eval) (w := w') (.tmp 47) rfl Try.underlying3 rfl hg.1, rfl⟩) ?_
      refine LinL.step (s := (.val (.agg #[.int .i64 k, .int .i64 f, .int .i64 i, .int .i64 y, .int .i64 x, .int .i64 p, .int .i64 0, .int .i64 0, .int .i64 0, .int .i64 0, .int .i64 0, .int .i64 0, .slice none 0 0]))) [(33, some 15), (36, some 12), (39, some 9), (42, some 6), (45, some 3), (48, some 0)] rfl (by kernel_rfl) (op_runs rfl fun σ w' hx hg => ⟨_, runs_mbuild (ρ := σ.eval) (w := w') [.int .i64 k, .int .i64 f, .int .i64 i, .int .i64 y, .int .i64 x, .int .i64 p, .int .i64 0, .int .i64 0, .int .i64 0, .int .i64 0, .int .i64 0, .int .i64 0, .slice none 0 0] (ps := #[(0, .tmp 33), (1, .tmp 36), (2, .tmp 39), (3, .tmp 42), (4, .tmp 45), (5, .tmp 48)]) rfl (by have h33 : σ.tmps.getD 33 undef = .int .i64 (k : Int) := hg.1; have h36 : σ.tmps.getD 36 undef = .int .i64 (f : Int) := hg.2.1; have h39 : σ.tmps.getD 39 undef = .int .i64 (i : Int) := hg.2.2.1; have h42 : σ.tmps.getD 42 undef = .int .i64 (y : Int) := hg.2.2.2.1; have h45 : σ.tmps.getD 45 undef = .int .i64 (x : Int) := hg.2.2.2.2.1; have h48 : σ.tmps.getD 48 undef = .int .i64 (p : Int) := hg.2.2.2.2.2.1; simp only [List.map_cons, List.map_nil, Act.eval, h33, h36, h39, h42, h45, h48, mZero, List.foldl_cons, List.foldl_nil, List.set_cons_zero, List.set_cons_succ]) (by have h33 : σ.tmps.getD 33 undef = .int .i64 (k : Int) := hg.1; have h36 : σ.tmps.getD 36 undef = .int .i64 (f : Int) := hg.2.1; have h39 : σ.tmps.getD 39 undef = .int .i64 (i : Int) := hg.2.2.1; have h42 : σ.tmps.getD 42 undef = .int .i64 (y : Int) := hg.2.2.2.1; have h45 : σ.tmps.getD 45 undef = .int .i64 (x : Int) := hg.2.2.2.2.1; have h48 : σ.tmps.getD 48 undef = .int .i64 (p : Int) := hg.2.2.2.2.2.1; intro p hp; simp at hp; rcases hp with rfl | rfl | rfl | rfl | rfl | rfl; exact ⟨by decide, by show (σ.tmps.getD 33 undef).cells = #[σ.tmps.getD 33 undef]; rw [h33]; exact rfl⟩; exact ⟨by decide, by show (σ.tmps.getD 36 undef).cells = #[σ.tmps.getD 36 undef]; rw [h36]; exact rfl⟩; exact ⟨by decide, by show (σ.tmps.getD 39 undef).cells = #[σ.tmps.getD 39 undef]; rw [h39]; exact rfl⟩; exact ⟨by decide, by show (σ.tmps.getD 42 undef).cells = #[σ.tmps.getD 42 undef]; rw [h42]; exact rfl⟩; exact ⟨by decide, by show (σ.tmps.getD 45 undef).cells = #[σ.tmps.getD 45 undef]; rw [h45]; exact rfl⟩; exact ⟨by decide, by show (σ.tmps.getD 48 undef).cells = #[σ.tmps.getD 48 undef]; rw [h48]; exact rfl⟩), rfl⟩) ?_
      refine LinL.step (s := (Sp.fs wd.heap.size mZero)) [] rfl (by kernel_rfl) (op_agalloc Try.agMsg (Nat.le_refl _) rfl rfl) ?_
      intro wN hxN
      simp only [Fin', Sp.ptr, Sp.fs, List.reverse_cons, List.reverse_nil, List.nil_append, List.cons_append, List.drop_zero, List.take_succ_cons, List.take_zero]
      intro q32 hq32 q35 hq35 q38 hq38 q41 hq41 q44 hq44 q47 hq47 q10 hq10
      simp only [Act.put, List.setIfInBounds_toArray, List.set_cons_zero, List.set_cons_succ]
      obtain ⟨g7, rfl, hg7, f7⟩ := hq10
      refine wpOp_of_list rfl ?_
      refine w_agput Try.agMsg (us := [.int .i64 k, .int .i64 f, .int .i64 i, .int .i64 y, .int .i64 x, .int .i64 p, .int .i64 0, .int .i64 0, .int .i64 0, .int .i64 0, .int .i64 0, .int .i64 0, .slice none 0 0]) _ _ rfl rfl rfl rfl rfl f7 rfl rfl (m_one (d := ⟨k, f, i, y, x, p, TxD.zero, BlkD.zero⟩) rfl) ?_; intro w8 hm8 f8
      replace f7 : Fs w8 g7 (mRow ⟨k, f, i, y, x, p, TxD.zero, BlkD.zero⟩ (.slice none 0 0)) := f8
      have hx8 : Ext wd w8 := hm8.after hxN (fun j e => e ▸ hg7)
      have hne := hide_ (show ¬ g2 = g7 from (by have := f2.lt; omega))
      replace f2 := f2.ext hx8; replace b2 := b2.ext hx8; replace hg7 := Nat.le_trans hX.size hg7; replace hX := hX.trans hx8; replace hv := hv.ext hx8
      show Ph Try.prog _ _ 21 _ _
      refine Ph.rest 21 0 (by kernel_rfl) ?_
      intro wN2 hxN2
      simp only [Fin', List.reverse_nil, List.drop_zero, List.drop_succ_cons, List.take_zero]
      replace f7 := f7.ext hxN2; replace f2 := f2.ext hxN2; replace b2 := b2.ext hxN2; replace hX := hX.trans hxN2; replace hv := hv.ext hxN2
      clear hxN2 hm8 hx8 hxN hxd i1 f8
      go_wp2_with ((first
        | go_big_skip
        | (go_at_call 32; refine (refBRead_any hs.out hslen.out b2).mono ?_; rintro e w3 ⟨u, rfl, hx, o3⟩; have n2 : ∀ k, u.ownBlock = some k → ¬ k = g2 := (fun k hk e => by have := o3.new k hk; have := f2.lt; omega); have n7 : ∀ k, u.ownBlock = some k → ¬ k = g7 := (fun k hk e => by have := o3.new k hk; have := f7.lt; omega); replace o3 := o3.mono hX.size; replace f7 := f7.ext hx; replace hv := hv.ext hx; replace f2 := f2.ext hx; replace hX := hX.trans hx; clear hx)
        | (go_at_call 19; refine (refMBytes_yes (d := m) (u := u) hnr.out (by rw [hm.out]; exact o3.recs) (by rw [hm.out]; exact hraw.out.1) (by rw [hm.out]; exact hraw.out.2)).mono ?_; rintro e w4 ⟨v11, rfl, o11, hx⟩; have b11 := o11.byt; clear o11; replace o3 := o3.ext hx; replace f7 := f7.ext hx; replace hv := hv.ext hx; replace f2 := f2.ext hx; replace hX := hX.trans hx; clear hx)
        | ((with_reducible refine at_field ?_); (try refine w_yes _ _ _ rfl rfl rfl ?_); refine w_mfield _ _ _ rfl rfl rfl (by omega) ?_)
        | ((with_reducible refine at_conv ?_); (try refine w_yes _ _ _ rfl rfl rfl ?_); refine w_str _ rfl rfl (v := v11) rfl b11 ?_)
        | ((with_reducible refine at_conv ?_); (try refine w_yes _ _ _ rfl rfl rfl ?_); refine w_str _ rfl rfl (v := v) rfl hv ?_)
        | ((with_reducible refine at_store ?_); refine w_agstore Try.agBlk (us := bRw (bOr (rdBlk s)) u) _ _ rfl rfl rfl rfl rfl f7 rfl (show 8 + 5 ≤ 13 from by decide) (b_one o3.recs.one') ?_; intro w9 hm f9; replace hv := hv.modM f7 (mr_nob ⟨_, _, _, rfl⟩) hm; replace f7 : Fs w9 g7 (mRow ⟨k, f, i, y, x, p, TxD.zero, bOr (rdBlk s)⟩ u) := f9; replace f2 := f2.mod hm hne.out; replace o3 := o3.mod hm (fun k hk e => n7 k hk e); replace hX := hm.after hX (fun i e => e ▸ hg7); clear hm f9)
        | ((with_reducible refine at_load ?_); have ce := o3; clear ce; refine w_loadN Try.stMsg _ (mRow m u) rfl rfl rfl (by rw [hm.out]; exact f7) rfl mself_at ?_)
        | ((with_reducible refine at_load ?_); (try refine w_yes _ _ _ rfl rfl rfl ?_); refine w_fload _ rfl rfl rfl f7 rfl (agg_of (by kernel_rfl)) ?_)
        | ((with_reducible refine at_store ?_); have ce := o3; clear ce; refine w_agput Try.agMsg (us := mRow m u) (.tmp 2) _ rfl rfl rfl rfl rfl f2 rfl rfl (m_one o3.recs.one') ?_; intro w9 hm9 f9; replace f2 := f9; replace o3 := o3.mod hm9 (fun k hk e => n2 k hk e); replace hX := hm9.after hX (fun i e => e ▸ hg2); clear hm9 f9)
        | fail) <;> (try simp only [Act.put, List.setIfInBounds_toArray, List.set_cons_zero, List.set_cons_succ]))
      exact bodyPost_ret (ag_two Try.agMsg rfl rfl rfl f2 rfl) rfl (Keep.intro ⟨u, by rw [hfin.out]; rfl, hX, by rw [hfin.out]; show OwnT _ _ _ m.bk.txs; rw [hm.out]; exact o3⟩)
    have t0 : (k == 0) = false := by simpa using hk0
    have t1 : (k == 1) = false := by simpa using hk1
    have hrd := rdMsg_rest hb (frB_c4 hr0 hk0 hk1)
    have hraw := hraw0
    rw [frB_c4 hr0 hk0 hk1] at hraw
    replace hraw := hide_ hraw
    obtain ⟨m, hm0⟩ : ∃ m : MsgD, m = ⟨k, f, i, y, x, p, TxD.zero, BlkD.zero⟩ := ⟨_, rfl⟩
    have hm := hide_ hm0
    rw [← hm0] at hrd
    clear hm0 hr0 hraw0 hk0 hk1
    by_cases hr : m.Right
    rotate_left
    · have hnr := hide_ hr
      replace No := No (by rw [hrd, if_neg (fun h => hr h.1)])
      clear hr hrd
      go_enter Try.func16, Try.ntmps16
      go_wp2_with ((first
        | (go_at_call 29; refine (refReadNum_own _ b _ hb hv hlen).mono ?_; rintro e w2 ⟨v2, rfl, o2, hx⟩; rw [hre.out]; have b2 := o2.byt; clear o2; replace hv := hv.ext hx; replace f2 := f2.ext hx; replace hX := hX.trans hx; clear hx)
        | (go_at_call 30; refine (refRNums_yes (m := 6) (by omega) hr6.out hs1.out hl1.out b2).mono ?_; rintro e w3 ⟨v1, v3, rfl, i1, b3, hx⟩; clear b2; have b2 := b3; clear b3; replace hv := hv.ext hx; replace f2 := f2.ext hx; replace hX := hX.trans hx; clear hx)
        | ((with_reducible refine at_alloc ?_); refine w_agalloc Try.agMsg rfl rfl ?_; intro g2 w1 hg2 hX f2; replace hv := hv.ext hX)
        | fail) <;> (try simp only [Act.put, List.setIfInBounds_toArray, List.set_cons_zero, List.set_cons_succ]))
      refine wp_region_phx (by kernel_rfl) ?_; intro wd hxd; replace i1 := i1.ext hxd; replace b2 := b2.ext hxd; replace f2 := f2.ext hxd; replace hX := hX.trans hxd; replace hv := hv.ext hxd
      refine Ph.gate 0 20 (by kernel_rfl) ?_
      refine LinL.step (s := (.val (v1))) [(7, none)] rfl (by kernel_rfl) (op_out 7 (v1) rfl (.inl rfl) rfl) ?_
      refine LinL.step (s := (Sp.ptr (.int .i64 (k)))) [(31, some 0)] rfl (by kernel_rfl) (op_runs rfl fun σ w' hx hg => rptri (ρ := σ.eval) (w := w') (.tmp 31) (.const (.int .i64 0)) rfl hg.1 (i1.ext hx) 0 rfl (by simp) rfl) ?_
      refine LinL.step (s := (.val (.int .i64 (k : Int)))) [(32, some 0)] rfl (by kernel_rfl) (op_runs rfl fun σ w' hx hg => ⟨_, runs_load (ρ := σ.eval) (w := w') (.tmp 32) rfl Try.underlying3 rfl hg.1, rfl⟩) ?_
      refine LinL.step (s := (.val (v1))) [(7, none)] rfl (by kernel_rfl) (op_out 7 (v1) rfl (.inl rfl) rfl) ?_
      refine LinL.step (s := (Sp.ptr (.int .i64 (f)))) [(34, some 0)] rfl (by kernel_rfl) (op_runs rfl fun σ w' hx hg => rptri (ρ := σ.eval) (w := w') (.tmp 34) (.const (.int .i64 1)) rfl hg.1 (i1.ext hx) 1 rfl (by simp) rfl) ?_
      refine LinL.step (s := (.val (.int .i64 (f : Int)))) [(35, some 0)] rfl (by kernel_rfl) (op_runs rfl fun σ w' hx hg => ⟨_, runs_load (ρ := σ.eval) (w := w') (.tmp 35) rfl Try.underlying3 rfl hg.1, rfl⟩) ?_
      refine LinL.step (s := (.val (v1))) [(7, none)] rfl (by kernel_rfl) (op_out 7 (v1) rfl (.inl rfl) rfl) ?_
      refine LinL.step (s := (Sp.ptr (.int .i64 (i)))) [(37, some 0)] rfl (by kernel_rfl) (op_runs rfl fun σ w' hx hg => rptri (ρ := σ.eval) (w := w') (.tmp 37) (.const (.int .i64 2)) rfl hg.1 (i1.ext hx) 2 rfl (by simp) rfl) ?_
      refine LinL.step (s := (.val (.int .i64 (i : Int)))) [(38, some 0)] rfl (by kernel_rfl) (op_runs rfl fun σ w' hx hg => ⟨_, runs_load (ρ := σ.eval) (w := w') (.tmp 38) rfl Try.underlying3 rfl hg.1, rfl⟩) ?_
      refine LinL.step (s := (.val (v1))) [(7, none)] rfl (by kernel_rfl) (op_out 7 (v1) rfl (.inl rfl) rfl) ?_
      refine LinL.step (s := (Sp.ptr (.int .i64 (y)))) [(40, some 0)] rfl (by kernel_rfl) (op_runs rfl fun σ w' hx hg => rptri (ρ := σ.eval) (w := w') (.tmp 40) (.const (.int .i64 3)) rfl hg.1 (i1.ext hx) 3 rfl (by simp) rfl) ?_
      refine LinL.step (s := (.val (.int .i64 (y : Int)))) [(41, some 0)] rfl (by kernel_rfl) (op_runs rfl fun σ w' hx hg => ⟨_, runs_load (ρ := σ.eval) (w := w') (.tmp 41) rfl Try.underlying3 rfl hg.1, rfl⟩) ?_
      refine LinL.step (s := (.val (v1))) [(7, none)] rfl (by kernel_rfl) (op_out 7 (v1) rfl (.inl rfl) rfl) ?_
      refine LinL.step (s := (Sp.ptr (.int .i64 (x)))) [(43, some 0)] rfl (by kernel_rfl) (op_runs rfl fun σ w' hx hg => rptri (ρ := σ.eval) (w := w') (.tmp 43) (.const (.int .i64 4)) rfl hg.1 (i1.ext hx) 4 rfl (by simp) rfl) ?_
      refine LinL.step (s := (.val (.int .i64 (x : Int)))) [(44, some 0)] rfl (by kernel_rfl) (op_runs rfl fun σ w' hx hg => ⟨_, runs_load (ρ := σ.eval) (w := w') (.tmp 44) rfl Try.underlying3 rfl hg.1, rfl⟩) ?_
      refine LinL.step (s := (.val (v1))) [(7, none)] rfl (by kernel_rfl) (op_out 7 (v1) rfl (.inl rfl) rfl) ?_
      refine LinL.step (s := (Sp.ptr (.int .i64 (p)))) [(46, some 0)] rfl (by kernel_rfl) (op_runs rfl fun σ w' hx hg => rptri (ρ := σ.eval) (w := w') (.tmp 46) (.const (.int .i64 5)) rfl hg.1 (i1.ext hx) 5 rfl (by simp) rfl) ?_
      refine LinL.step (s := (.val (.int .i64 (p : Int)))) [(47, some 0)] rfl (by kernel_rfl) (op_runs rfl fun σ w' hx hg => ⟨_, runs_load (ρ := σ.eval) (w := w') (.tmp 47) rfl Try.underlying3 rfl hg.1, rfl⟩) ?_
      refine LinL.step (s := (.val (.agg #[.int .i64 k, .int .i64 f, .int .i64 i, .int .i64 y, .int .i64 x, .int .i64 p, .int .i64 0, .int .i64 0, .int .i64 0, .int .i64 0, .int .i64 0, .int .i64 0, .slice none 0 0]))) [(33, some 15), (36, some 12), (39, some 9), (42, some 6), (45, some 3), (48, some 0)] rfl (by kernel_rfl) (op_runs rfl fun σ w' hx hg => ⟨_, runs_mbuild (ρ := σ.eval) (w := w') [.int .i64 k, .int .i64 f, .int .i64 i, .int .i64 y, .int .i64 x, .int .i64 p, .int .i64 0, .int .i64 0, .int .i64 0, .int .i64 0, .int .i64 0, .int .i64 0, .slice none 0 0] (ps := #[(0, .tmp 33), (1, .tmp 36), (2, .tmp 39), (3, .tmp 42), (4, .tmp 45), (5, .tmp 48)]) rfl (by have h33 : σ.tmps.getD 33 undef = .int .i64 (k : Int) := hg.1; have h36 : σ.tmps.getD 36 undef = .int .i64 (f : Int) := hg.2.1; have h39 : σ.tmps.getD 39 undef = .int .i64 (i : Int) := hg.2.2.1; have h42 : σ.tmps.getD 42 undef = .int .i64 (y : Int) := hg.2.2.2.1; have h45 : σ.tmps.getD 45 undef = .int .i64 (x : Int) := hg.2.2.2.2.1; have h48 : σ.tmps.getD 48 undef = .int .i64 (p : Int) := hg.2.2.2.2.2.1; simp only [List.map_cons, List.map_nil, Act.eval, h33, h36, h39, h42, h45, h48, mZero, List.foldl_cons, List.foldl_nil, List.set_cons_zero, List.set_cons_succ]) (by have h33 : σ.tmps.getD 33 undef = .int .i64 (k : Int) := hg.1; have h36 : σ.tmps.getD 36 undef = .int .i64 (f : Int) := hg.2.1; have h39 : σ.tmps.getD 39 undef = .int .i64 (i : Int) := hg.2.2.1; have h42 : σ.tmps.getD 42 undef = .int .i64 (y : Int) := hg.2.2.2.1; have h45 : σ.tmps.getD 45 undef = .int .i64 (x : Int) := hg.2.2.2.2.1; have h48 : σ.tmps.getD 48 undef = .int .i64 (p : Int) := hg.2.2.2.2.2.1; intro p hp; simp at hp; rcases hp with rfl | rfl | rfl | rfl | rfl | rfl; exact ⟨by decide, by show (σ.tmps.getD 33 undef).cells = #[σ.tmps.getD 33 undef]; rw [h33]; exact rfl⟩; exact ⟨by decide, by show (σ.tmps.getD 36 undef).cells = #[σ.tmps.getD 36 undef]; rw [h36]; exact rfl⟩; exact ⟨by decide, by show (σ.tmps.getD 39 undef).cells = #[σ.tmps.getD 39 undef]; rw [h39]; exact rfl⟩; exact ⟨by decide, by show (σ.tmps.getD 42 undef).cells = #[σ.tmps.getD 42 undef]; rw [h42]; exact rfl⟩; exact ⟨by decide, by show (σ.tmps.getD 45 undef).cells = #[σ.tmps.getD 45 undef]; rw [h45]; exact rfl⟩; exact ⟨by decide, by show (σ.tmps.getD 48 undef).cells = #[σ.tmps.getD 48 undef]; rw [h48]; exact rfl⟩), rfl⟩) ?_
      refine LinL.step (s := (Sp.fs wd.heap.size mZero)) [] rfl (by kernel_rfl) (op_agalloc Try.agMsg (Nat.le_refl _) rfl rfl) ?_
      intro wN hxN
      simp only [Fin', Sp.ptr, Sp.fs, List.reverse_cons, List.reverse_nil, List.nil_append, List.cons_append, List.drop_zero, List.take_succ_cons, List.take_zero]
      intro q32 hq32 q35 hq35 q38 hq38 q41 hq41 q44 hq44 q47 hq47 q10 hq10
      simp only [Act.put, List.setIfInBounds_toArray, List.set_cons_zero, List.set_cons_succ]
      obtain ⟨g7, rfl, hg7, f7⟩ := hq10
      refine wpOp_of_list rfl ?_
      refine w_agput Try.agMsg (us := [.int .i64 k, .int .i64 f, .int .i64 i, .int .i64 y, .int .i64 x, .int .i64 p, .int .i64 0, .int .i64 0, .int .i64 0, .int .i64 0, .int .i64 0, .int .i64 0, .slice none 0 0]) _ _ rfl rfl rfl rfl rfl f7 rfl rfl (m_one (d := ⟨k, f, i, y, x, p, TxD.zero, BlkD.zero⟩) rfl) ?_; intro w8 hm8 f8
      replace f7 : Fs w8 g7 (mRow ⟨k, f, i, y, x, p, TxD.zero, BlkD.zero⟩ (.slice none 0 0)) := f8
      have hx8 : Ext wd w8 := hm8.after hxN (fun j e => e ▸ hg7)
      have hne := hide_ (show ¬ g2 = g7 from (by have := f2.lt; omega))
      replace f2 := f2.ext hx8; replace b2 := b2.ext hx8; replace hg7 := Nat.le_trans hX.size hg7; replace hX := hX.trans hx8; replace hv := hv.ext hx8
      show Ph Try.prog _ _ 21 _ _
      refine Ph.rest 21 0 (by kernel_rfl) ?_
      intro wN2 hxN2
      simp only [Fin', List.reverse_nil, List.drop_zero, List.drop_succ_cons, List.take_zero]
      replace f7 := f7.ext hxN2; replace f2 := f2.ext hxN2; replace b2 := b2.ext hxN2; replace hX := hX.trans hxN2; replace hv := hv.ext hxN2
      clear hxN2 hm8 hx8 hxN hxd i1 f8
      go_wp2_with ((first
        | go_big_skip
        | (go_at_call 19; refine (refMBytes_no (d := m) (u := (.slice none 0 0)) hnr.out (by rw [hm.out]; exact (OwnT.nil 0 _).recs) (by rw [hm.out]; exact hraw.out.1) (by rw [hm.out]; exact hraw.out.2)).mono ?_; rintro e w4 ⟨rfl, hx⟩; replace f7 := f7.ext hx; replace hv := hv.ext hx; replace f2 := f2.ext hx; replace hX := hX.trans hx; clear hx)
        | ((with_reducible refine at_field ?_); (try refine w_yes _ _ _ rfl rfl rfl ?_); refine w_mfield _ _ _ rfl rfl rfl (by omega) ?_)
        | ((with_reducible refine at_load ?_); refine w_loadN Try.stMsg _ (mRow m (.slice none 0 0)) rfl rfl rfl (by rw [hm.out]; exact f7) rfl mself_at ?_)
        | ((with_reducible refine at_load ?_); (try refine w_yes _ _ _ rfl rfl rfl ?_); refine w_fload _ rfl rfl rfl f7 rfl (agg_of (by kernel_rfl)) ?_)
        | ((with_reducible refine at_sbuild ?_); refine w_mbuild mZero rfl rfl rfl (by intro p hp; simp at hp) ?_)
        | ((with_reducible refine at_store ?_); refine w_agput Try.agMsg (us := mZero) (.tmp 2) _ rfl rfl rfl rfl rfl f2 rfl rfl (m_one (d := MsgD.zero) rfl) ?_; intro w9 hm f9; replace f2 := f9; replace hX := hm.after hX (fun i e => e ▸ hg2); clear hm f9)
        | fail) <;> (try simp only [Act.put, List.setIfInBounds_toArray, List.set_cons_zero, List.set_cons_succ]))
      exact bodyPost_ret (ag_two Try.agMsg rfl rfl rfl f2 rfl) rfl (No.out _ _ rfl hX)
    have hnr := hide_ hr
    by_cases he : m.bytes = b
    rotate_left
    · have hst : ((strN m.bytes).toList == (strN b).toList) = false := by rw [beq_eq_false_iff_ne]; exact strN_ne' m.bytes_lt hb he
      replace No := No (by rw [hrd, if_neg (fun h => he h.2)])
      clear hr he hrd
      go_enter Try.func16, Try.ntmps16
      go_wp2_with ((first
        | (go_at_call 29; refine (refReadNum_own _ b _ hb hv hlen).mono ?_; rintro e w2 ⟨v2, rfl, o2, hx⟩; rw [hre.out]; have b2 := o2.byt; clear o2; replace hv := hv.ext hx; replace f2 := f2.ext hx; replace hX := hX.trans hx; clear hx)
        | (go_at_call 30; refine (refRNums_yes (m := 6) (by omega) hr6.out hs1.out hl1.out b2).mono ?_; rintro e w3 ⟨v1, v3, rfl, i1, b3, hx⟩; clear b2; have b2 := b3; clear b3; replace hv := hv.ext hx; replace f2 := f2.ext hx; replace hX := hX.trans hx; clear hx)
        | ((with_reducible refine at_alloc ?_); refine w_agalloc Try.agMsg rfl rfl ?_; intro g2 w1 hg2 hX f2; replace hv := hv.ext hX)
        | fail) <;> (try simp only [Act.put, List.setIfInBounds_toArray, List.set_cons_zero, List.set_cons_succ]))
      refine wp_region_phx (by kernel_rfl) ?_; intro wd hxd; replace i1 := i1.ext hxd; replace b2 := b2.ext hxd; replace f2 := f2.ext hxd; replace hX := hX.trans hxd; replace hv := hv.ext hxd
      refine Ph.gate 0 20 (by kernel_rfl) ?_
      refine LinL.step (s := (.val (v1))) [(7, none)] rfl (by kernel_rfl) (op_out 7 (v1) rfl (.inl rfl) rfl) ?_
      refine LinL.step (s := (Sp.ptr (.int .i64 (k)))) [(31, some 0)] rfl (by kernel_rfl) (op_runs rfl fun σ w' hx hg => rptri (ρ := σ.eval) (w := w') (.tmp 31) (.const (.int .i64 0)) rfl hg.1 (i1.ext hx) 0 rfl (by simp) rfl) ?_
      refine LinL.step (s := (.val (.int .i64 (k : Int)))) [(32, some 0)] rfl (by kernel_rfl) (op_runs rfl fun σ w' hx hg => ⟨_, runs_load (ρ := σ.eval) (w := w') (.tmp 32) rfl Try.underlying3 rfl hg.1, rfl⟩) ?_
      refine LinL.step (s := (.val (v1))) [(7, none)] rfl (by kernel_rfl) (op_out 7 (v1) rfl (.inl rfl) rfl) ?_
      refine LinL.step (s := (Sp.ptr (.int .i64 (f)))) [(34, some 0)] rfl (by kernel_rfl) (op_runs rfl fun σ w' hx hg => rptri (ρ := σ.eval) (w := w') (.tmp 34) (.const (.int .i64 1)) rfl hg.1 (i1.ext hx) 1 rfl (by simp) rfl) ?_
      refine LinL.step (s := (.val (.int .i64 (f : Int)))) [(35, some 0)] rfl (by kernel_rfl) (op_runs rfl fun σ w' hx hg => ⟨_, runs_load (ρ := σ.eval) (w := w') (.tmp 35) rfl Try.underlying3 rfl hg.1, rfl⟩) ?_
      refine LinL.step (s := (.val (v1))) [(7, none)] rfl (by kernel_rfl) (op_out 7 (v1) rfl (.inl rfl) rfl) ?_
      refine LinL.step (s := (Sp.ptr (.int .i64 (i)))) [(37, some 0)] rfl (by kernel_rfl) (op_runs rfl fun σ w' hx hg => rptri (ρ := σ.eval) (w := w') (.tmp 37) (.const (.int .i64 2)) rfl hg.1 (i1.ext hx) 2 rfl (by simp) rfl) ?_
      refine LinL.step (s := (.val (.int .i64 (i : Int)))) [(38, some 0)] rfl (by kernel_rfl) (op_runs rfl fun σ w' hx hg => ⟨_, runs_load (ρ := σ.eval) (w := w') (.tmp 38) rfl Try.underlying3 rfl hg.1, rfl⟩) ?_
      refine LinL.step (s := (.val (v1))) [(7, none)] rfl (by kernel_rfl) (op_out 7 (v1) rfl (.inl rfl) rfl) ?_
      refine LinL.step (s := (Sp.ptr (.int .i64 (y)))) [(40, some 0)] rfl (by kernel_rfl) (op_runs rfl fun σ w' hx hg => rptri (ρ := σ.eval) (w := w') (.tmp 40) (.const (.int .i64 3)) rfl hg.1 (i1.ext hx) 3 rfl (by simp) rfl) ?_
      refine LinL.step (s := (.val (.int .i64 (y : Int)))) [(41, some 0)] rfl (by kernel_rfl) (op_runs rfl fun σ w' hx hg => ⟨_, runs_load (ρ := σ.eval) (w := w') (.tmp 41) rfl Try.underlying3 rfl hg.1, rfl⟩) ?_
      refine LinL.step (s := (.val (v1))) [(7, none)] rfl (by kernel_rfl) (op_out 7 (v1) rfl (.inl rfl) rfl) ?_
      refine LinL.step (s := (Sp.ptr (.int .i64 (x)))) [(43, some 0)] rfl (by kernel_rfl) (op_runs rfl fun σ w' hx hg => rptri (ρ := σ.eval) (w := w') (.tmp 43) (.const (.int .i64 4)) rfl hg.1 (i1.ext hx) 4 rfl (by simp) rfl) ?_
      refine LinL.step (s := (.val (.int .i64 (x : Int)))) [(44, some 0)] rfl (by kernel_rfl) (op_runs rfl fun σ w' hx hg => ⟨_, runs_load (ρ := σ.eval) (w := w') (.tmp 44) rfl Try.underlying3 rfl hg.1, rfl⟩) ?_
      refine LinL.step (s := (.val (v1))) [(7, none)] rfl (by kernel_rfl) (op_out 7 (v1) rfl (.inl rfl) rfl) ?_
      refine LinL.step (s := (Sp.ptr (.int .i64 (p)))) [(46, some 0)] rfl (by kernel_rfl) (op_runs rfl fun σ w' hx hg => rptri (ρ := σ.eval) (w := w') (.tmp 46) (.const (.int .i64 5)) rfl hg.1 (i1.ext hx) 5 rfl (by simp) rfl) ?_
      refine LinL.step (s := (.val (.int .i64 (p : Int)))) [(47, some 0)] rfl (by kernel_rfl) (op_runs rfl fun σ w' hx hg => ⟨_, runs_load (ρ := σ.eval) (w := w') (.tmp 47) rfl Try.underlying3 rfl hg.1, rfl⟩) ?_
      refine LinL.step (s := (.val (.agg #[.int .i64 k, .int .i64 f, .int .i64 i, .int .i64 y, .int .i64 x, .int .i64 p, .int .i64 0, .int .i64 0, .int .i64 0, .int .i64 0, .int .i64 0, .int .i64 0, .slice none 0 0]))) [(33, some 15), (36, some 12), (39, some 9), (42, some 6), (45, some 3), (48, some 0)] rfl (by kernel_rfl) (op_runs rfl fun σ w' hx hg => ⟨_, runs_mbuild (ρ := σ.eval) (w := w') [.int .i64 k, .int .i64 f, .int .i64 i, .int .i64 y, .int .i64 x, .int .i64 p, .int .i64 0, .int .i64 0, .int .i64 0, .int .i64 0, .int .i64 0, .int .i64 0, .slice none 0 0] (ps := #[(0, .tmp 33), (1, .tmp 36), (2, .tmp 39), (3, .tmp 42), (4, .tmp 45), (5, .tmp 48)]) rfl (by have h33 : σ.tmps.getD 33 undef = .int .i64 (k : Int) := hg.1; have h36 : σ.tmps.getD 36 undef = .int .i64 (f : Int) := hg.2.1; have h39 : σ.tmps.getD 39 undef = .int .i64 (i : Int) := hg.2.2.1; have h42 : σ.tmps.getD 42 undef = .int .i64 (y : Int) := hg.2.2.2.1; have h45 : σ.tmps.getD 45 undef = .int .i64 (x : Int) := hg.2.2.2.2.1; have h48 : σ.tmps.getD 48 undef = .int .i64 (p : Int) := hg.2.2.2.2.2.1; simp only [List.map_cons, List.map_nil, Act.eval, h33, h36, h39, h42, h45, h48, mZero, List.foldl_cons, List.foldl_nil, List.set_cons_zero, List.set_cons_succ]) (by have h33 : σ.tmps.getD 33 undef = .int .i64 (k : Int) := hg.1; have h36 : σ.tmps.getD 36 undef = .int .i64 (f : Int) := hg.2.1; have h39 : σ.tmps.getD 39 undef = .int .i64 (i : Int) := hg.2.2.1; have h42 : σ.tmps.getD 42 undef = .int .i64 (y : Int) := hg.2.2.2.1; have h45 : σ.tmps.getD 45 undef = .int .i64 (x : Int) := hg.2.2.2.2.1; have h48 : σ.tmps.getD 48 undef = .int .i64 (p : Int) := hg.2.2.2.2.2.1; intro p hp; simp at hp; rcases hp with rfl | rfl | rfl | rfl | rfl | rfl; exact ⟨by decide, by show (σ.tmps.getD 33 undef).cells = #[σ.tmps.getD 33 undef]; rw [h33]; exact rfl⟩; exact ⟨by decide, by show (σ.tmps.getD 36 undef).cells = #[σ.tmps.getD 36 undef]; rw [h36]; exact rfl⟩; exact ⟨by decide, by show (σ.tmps.getD 39 undef).cells = #[σ.tmps.getD 39 undef]; rw [h39]; exact rfl⟩; exact ⟨by decide, by show (σ.tmps.getD 42 undef).cells = #[σ.tmps.getD 42 undef]; rw [h42]; exact rfl⟩; exact ⟨by decide, by show (σ.tmps.getD 45 undef).cells = #[σ.tmps.getD 45 undef]; rw [h45]; exact rfl⟩; exact ⟨by decide, by show (σ.tmps.getD 48 undef).cells = #[σ.tmps.getD 48 undef]; rw [h48]; exact rfl⟩), rfl⟩) ?_
      refine LinL.step (s := (Sp.fs wd.heap.size mZero)) [] rfl (by kernel_rfl) (op_agalloc Try.agMsg (Nat.le_refl _) rfl rfl) ?_
      intro wN hxN
      simp only [Fin', Sp.ptr, Sp.fs, List.reverse_cons, List.reverse_nil, List.nil_append, List.cons_append, List.drop_zero, List.take_succ_cons, List.take_zero]
      intro q32 hq32 q35 hq35 q38 hq38 q41 hq41 q44 hq44 q47 hq47 q10 hq10
      simp only [Act.put, List.setIfInBounds_toArray, List.set_cons_zero, List.set_cons_succ]
      obtain ⟨g7, rfl, hg7, f7⟩ := hq10
      refine wpOp_of_list rfl ?_
      refine w_agput Try.agMsg (us := [.int .i64 k, .int .i64 f, .int .i64 i, .int .i64 y, .int .i64 x, .int .i64 p, .int .i64 0, .int .i64 0, .int .i64 0, .int .i64 0, .int .i64 0, .int .i64 0, .slice none 0 0]) _ _ rfl rfl rfl rfl rfl f7 rfl rfl (m_one (d := ⟨k, f, i, y, x, p, TxD.zero, BlkD.zero⟩) rfl) ?_; intro w8 hm8 f8
      replace f7 : Fs w8 g7 (mRow ⟨k, f, i, y, x, p, TxD.zero, BlkD.zero⟩ (.slice none 0 0)) := f8
      have hx8 : Ext wd w8 := hm8.after hxN (fun j e => e ▸ hg7)
      have hne := hide_ (show ¬ g2 = g7 from (by have := f2.lt; omega))
      replace f2 := f2.ext hx8; replace b2 := b2.ext hx8; replace hg7 := Nat.le_trans hX.size hg7; replace hX := hX.trans hx8; replace hv := hv.ext hx8
      show Ph Try.prog _ _ 21 _ _
      refine Ph.rest 21 0 (by kernel_rfl) ?_
      intro wN2 hxN2
      simp only [Fin', List.reverse_nil, List.drop_zero, List.drop_succ_cons, List.take_zero]
      replace f7 := f7.ext hxN2; replace f2 := f2.ext hxN2; replace b2 := b2.ext hxN2; replace hX := hX.trans hxN2; replace hv := hv.ext hxN2
      clear hxN2 hm8 hx8 hxN hxd i1 f8
      go_wp2_with ((first
        | go_big_skip
        | (go_at_call 19; refine (refMBytes_yes (d := m) (u := (.slice none 0 0)) hnr.out (by rw [hm.out]; exact (OwnT.nil 0 _).recs) (by rw [hm.out]; exact hraw.out.1) (by rw [hm.out]; exact hraw.out.2)).mono ?_; rintro e w4 ⟨v11, rfl, o11, hx⟩; have b11 := o11.byt; clear o11; replace f7 := f7.ext hx; replace hv := hv.ext hx; replace f2 := f2.ext hx; replace hX := hX.trans hx; clear hx)
        | ((with_reducible refine at_field ?_); (try refine w_yes _ _ _ rfl rfl rfl ?_); refine w_mfield _ _ _ rfl rfl rfl (by omega) ?_)
        | ((with_reducible refine at_conv ?_); (try refine w_yes _ _ _ rfl rfl rfl ?_); refine w_str _ rfl rfl (v := v11) rfl b11 ?_)
        | ((with_reducible refine at_conv ?_); (try refine w_yes _ _ _ rfl rfl rfl ?_); refine w_str _ rfl rfl (v := v) rfl hv ?_)
        | ((with_reducible refine at_load ?_); refine w_loadN Try.stMsg _ (mRow m (.slice none 0 0)) rfl rfl rfl (by rw [hm.out]; exact f7) rfl mself_at ?_)
        | ((with_reducible refine at_load ?_); (try refine w_yes _ _ _ rfl rfl rfl ?_); refine w_fload _ rfl rfl rfl f7 rfl (agg_of (by kernel_rfl)) ?_)
        | ((with_reducible refine at_sbuild ?_); refine w_mbuild mZero rfl rfl rfl (by intro p hp; simp at hp) ?_)
        | ((with_reducible refine at_store ?_); refine w_agput Try.agMsg (us := mZero) (.tmp 2) _ rfl rfl rfl rfl rfl f2 rfl rfl (m_one (d := MsgD.zero) rfl) ?_; intro w9 hm f9; replace f2 := f9; replace hX := hm.after hX (fun i e => e ▸ hg2); clear hm f9)
        | fail) <;> (try simp only [Act.put, List.setIfInBounds_toArray, List.set_cons_zero, List.set_cons_succ]))
      exact bodyPost_ret (ag_two Try.agMsg rfl rfl rfl f2 rfl) rfl (No.out _ _ rfl hX)
    have hfin := hide_ (show rdMsg b = some m from by rw [hrd, if_pos ⟨hr, he⟩])
    have hst : ((strN m.bytes).toList == (strN b).toList) = true := by rw [he]; simp
    clear hr he hrd No
    go_enter Try.func16, Try.ntmps16
    go_wp2_with ((first
      | (go_at_call 29; refine (refReadNum_own _ b _ hb hv hlen).mono ?_; rintro e w2 ⟨v2, rfl, o2, hx⟩; rw [hre.out]; have b2 := o2.byt; clear o2; replace hv := hv.ext hx; replace f2 := f2.ext hx; replace hX := hX.trans hx; clear hx)
      | (go_at_call 30; refine (refRNums_yes (m := 6) (by omega) hr6.out hs1.out hl1.out b2).mono ?_; rintro e w3 ⟨v1, v3, rfl, i1, b3, hx⟩; clear b2; have b2 := b3; clear b3; replace hv := hv.ext hx; replace f2 := f2.ext hx; replace hX := hX.trans hx; clear hx)
      | ((with_reducible refine at_alloc ?_); refine w_agalloc Try.agMsg rfl rfl ?_; intro g2 w1 hg2 hX f2; replace hv := hv.ext hX)
      | fail) <;> (try simp only [Act.put, List.setIfInBounds_toArray, List.set_cons_zero, List.set_cons_succ]))
    refine wp_region_phx (by kernel_rfl) ?_; intro wd hxd; replace i1 := i1.ext hxd; replace b2 := b2.ext hxd; replace f2 := f2.ext hxd; replace hX := hX.trans hxd; replace hv := hv.ext hxd
    refine Ph.gate 0 20 (by kernel_rfl) ?_
    refine LinL.step (s := (.val (v1))) [(7, none)] rfl (by kernel_rfl) (op_out 7 (v1) rfl (.inl rfl) rfl) ?_
    refine LinL.step (s := (Sp.ptr (.int .i64 (k)))) [(31, some 0)] rfl (by kernel_rfl) (op_runs rfl fun σ w' hx hg => rptri (ρ := σ.eval) (w := w') (.tmp 31) (.const (.int .i64 0)) rfl hg.1 (i1.ext hx) 0 rfl (by simp) rfl) ?_
    refine LinL.step (s := (.val (.int .i64 (k : Int)))) [(32, some 0)] rfl (by kernel_rfl) (op_runs rfl fun σ w' hx hg => ⟨_, runs_load (ρ := σ.eval) (w := w') (.tmp 32) rfl Try.underlying3 rfl hg.1, rfl⟩) ?_
    refine LinL.step (s := (.val (v1))) [(7, none)] rfl (by kernel_rfl) (op_out 7 (v1) rfl (.inl rfl) rfl) ?_
    refine LinL.step (s := (Sp.ptr (.int .i64 (f)))) [(34, some 0)] rfl (by kernel_rfl) (op_runs rfl fun σ w' hx hg => rptri (ρ := σ.eval) (w := w') (.tmp 34) (.const (.int .i64 1)) rfl hg.1 (i1.ext hx) 1 rfl (by simp) rfl) ?_
    refine LinL.step (s := (.val (.int .i64 (f : Int)))) [(35, some 0)] rfl (by kernel_rfl) (op_runs rfl fun σ w' hx hg => ⟨_, runs_load (ρ := σ.eval) (w := w') (.tmp 35) rfl Try.underlying3 rfl hg.1, rfl⟩) ?_
    refine LinL.step (s := (.val (v1))) [(7, none)] rfl (by kernel_rfl) (op_out 7 (v1) rfl (.inl rfl) rfl) ?_
    refine LinL.step (s := (Sp.ptr (.int .i64 (i)))) [(37, some 0)] rfl (by kernel_rfl) (op_runs rfl fun σ w' hx hg => rptri (ρ := σ.eval) (w := w') (.tmp 37) (.const (.int .i64 2)) rfl hg.1 (i1.ext hx) 2 rfl (by simp) rfl) ?_
    refine LinL.step (s := (.val (.int .i64 (i : Int)))) [(38, some 0)] rfl (by kernel_rfl) (op_runs rfl fun σ w' hx hg => ⟨_, runs_load (ρ := σ.eval) (w := w') (.tmp 38) rfl Try.underlying3 rfl hg.1, rfl⟩) ?_
    refine LinL.step (s := (.val (v1))) [(7, none)] rfl (by kernel_rfl) (op_out 7 (v1) rfl (.inl rfl) rfl) ?_
    refine LinL.step (s := (Sp.ptr (.int .i64 (y)))) [(40, some 0)] rfl (by kernel_rfl) (op_runs rfl fun σ w' hx hg => rptri (ρ := σ.eval) (w := w') (.tmp 40) (.const (.int .i64 3)) rfl hg.1 (i1.ext hx) 3 rfl (by simp) rfl) ?_
    refine LinL.step (s := (.val (.int .i64 (y : Int)))) [(41, some 0)] rfl (by kernel_rfl) (op_runs rfl fun σ w' hx hg => ⟨_, runs_load (ρ := σ.eval) (w := w') (.tmp 41) rfl Try.underlying3 rfl hg.1, rfl⟩) ?_
    refine LinL.step (s := (.val (v1))) [(7, none)] rfl (by kernel_rfl) (op_out 7 (v1) rfl (.inl rfl) rfl) ?_
    refine LinL.step (s := (Sp.ptr (.int .i64 (x)))) [(43, some 0)] rfl (by kernel_rfl) (op_runs rfl fun σ w' hx hg => rptri (ρ := σ.eval) (w := w') (.tmp 43) (.const (.int .i64 4)) rfl hg.1 (i1.ext hx) 4 rfl (by simp) rfl) ?_
    refine LinL.step (s := (.val (.int .i64 (x : Int)))) [(44, some 0)] rfl (by kernel_rfl) (op_runs rfl fun σ w' hx hg => ⟨_, runs_load (ρ := σ.eval) (w := w') (.tmp 44) rfl Try.underlying3 rfl hg.1, rfl⟩) ?_
    refine LinL.step (s := (.val (v1))) [(7, none)] rfl (by kernel_rfl) (op_out 7 (v1) rfl (.inl rfl) rfl) ?_
    refine LinL.step (s := (Sp.ptr (.int .i64 (p)))) [(46, some 0)] rfl (by kernel_rfl) (op_runs rfl fun σ w' hx hg => rptri (ρ := σ.eval) (w := w') (.tmp 46) (.const (.int .i64 5)) rfl hg.1 (i1.ext hx) 5 rfl (by simp) rfl) ?_
    refine LinL.step (s := (.val (.int .i64 (p : Int)))) [(47, some 0)] rfl (by kernel_rfl) (op_runs rfl fun σ w' hx hg => ⟨_, runs_load (ρ := σ.eval) (w := w') (.tmp 47) rfl Try.underlying3 rfl hg.1, rfl⟩) ?_
    refine LinL.step (s := (.val (.agg #[.int .i64 k, .int .i64 f, .int .i64 i, .int .i64 y, .int .i64 x, .int .i64 p, .int .i64 0, .int .i64 0, .int .i64 0, .int .i64 0, .int .i64 0, .int .i64 0, .slice none 0 0]))) [(33, some 15), (36, some 12), (39, some 9), (42, some 6), (45, some 3), (48, some 0)] rfl (by kernel_rfl) (op_runs rfl fun σ w' hx hg => ⟨_, runs_mbuild (ρ := σ.eval) (w := w') [.int .i64 k, .int .i64 f, .int .i64 i, .int .i64 y, .int .i64 x, .int .i64 p, .int .i64 0, .int .i64 0, .int .i64 0, .int .i64 0, .int .i64 0, .int .i64 0, .slice none 0 0] (ps := #[(0, .tmp 33), (1, .tmp 36), (2, .tmp 39), (3, .tmp 42), (4, .tmp 45), (5, .tmp 48)]) rfl (by have h33 : σ.tmps.getD 33 undef = .int .i64 (k : Int) := hg.1; have h36 : σ.tmps.getD 36 undef = .int .i64 (f : Int) := hg.2.1; have h39 : σ.tmps.getD 39 undef = .int .i64 (i : Int) := hg.2.2.1; have h42 : σ.tmps.getD 42 undef = .int .i64 (y : Int) := hg.2.2.2.1; have h45 : σ.tmps.getD 45 undef = .int .i64 (x : Int) := hg.2.2.2.2.1; have h48 : σ.tmps.getD 48 undef = .int .i64 (p : Int) := hg.2.2.2.2.2.1; simp only [List.map_cons, List.map_nil, Act.eval, h33, h36, h39, h42, h45, h48, mZero, List.foldl_cons, List.foldl_nil, List.set_cons_zero, List.set_cons_succ]) (by have h33 : σ.tmps.getD 33 undef = .int .i64 (k : Int) := hg.1; have h36 : σ.tmps.getD 36 undef = .int .i64 (f : Int) := hg.2.1; have h39 : σ.tmps.getD 39 undef = .int .i64 (i : Int) := hg.2.2.1; have h42 : σ.tmps.getD 42 undef = .int .i64 (y : Int) := hg.2.2.2.1; have h45 : σ.tmps.getD 45 undef = .int .i64 (x : Int) := hg.2.2.2.2.1; have h48 : σ.tmps.getD 48 undef = .int .i64 (p : Int) := hg.2.2.2.2.2.1; intro p hp; simp at hp; rcases hp with rfl | rfl | rfl | rfl | rfl | rfl; exact ⟨by decide, by show (σ.tmps.getD 33 undef).cells = #[σ.tmps.getD 33 undef]; rw [h33]; exact rfl⟩; exact ⟨by decide, by show (σ.tmps.getD 36 undef).cells = #[σ.tmps.getD 36 undef]; rw [h36]; exact rfl⟩; exact ⟨by decide, by show (σ.tmps.getD 39 undef).cells = #[σ.tmps.getD 39 undef]; rw [h39]; exact rfl⟩; exact ⟨by decide, by show (σ.tmps.getD 42 undef).cells = #[σ.tmps.getD 42 undef]; rw [h42]; exact rfl⟩; exact ⟨by decide, by show (σ.tmps.getD 45 undef).cells = #[σ.tmps.getD 45 undef]; rw [h45]; exact rfl⟩; exact ⟨by decide, by show (σ.tmps.getD 48 undef).cells = #[σ.tmps.getD 48 undef]; rw [h48]; exact rfl⟩), rfl⟩) ?_
    refine LinL.step (s := (Sp.fs wd.heap.size mZero)) [] rfl (by kernel_rfl) (op_agalloc Try.agMsg (Nat.le_refl _) rfl rfl) ?_
    intro wN hxN
    simp only [Fin', Sp.ptr, Sp.fs, List.reverse_cons, List.reverse_nil, List.nil_append, List.cons_append, List.drop_zero, List.take_succ_cons, List.take_zero]
    intro q32 hq32 q35 hq35 q38 hq38 q41 hq41 q44 hq44 q47 hq47 q10 hq10
    simp only [Act.put, List.setIfInBounds_toArray, List.set_cons_zero, List.set_cons_succ]
    obtain ⟨g7, rfl, hg7, f7⟩ := hq10
    refine wpOp_of_list rfl ?_
    refine w_agput Try.agMsg (us := [.int .i64 k, .int .i64 f, .int .i64 i, .int .i64 y, .int .i64 x, .int .i64 p, .int .i64 0, .int .i64 0, .int .i64 0, .int .i64 0, .int .i64 0, .int .i64 0, .slice none 0 0]) _ _ rfl rfl rfl rfl rfl f7 rfl rfl (m_one (d := ⟨k, f, i, y, x, p, TxD.zero, BlkD.zero⟩) rfl) ?_; intro w8 hm8 f8
    replace f7 : Fs w8 g7 (mRow ⟨k, f, i, y, x, p, TxD.zero, BlkD.zero⟩ (.slice none 0 0)) := f8
    have hx8 : Ext wd w8 := hm8.after hxN (fun j e => e ▸ hg7)
    have hne := hide_ (show ¬ g2 = g7 from (by have := f2.lt; omega))
    replace f2 := f2.ext hx8; replace b2 := b2.ext hx8; replace hg7 := Nat.le_trans hX.size hg7; replace hX := hX.trans hx8; replace hv := hv.ext hx8
    show Ph Try.prog _ _ 21 _ _
    refine Ph.rest 21 0 (by kernel_rfl) ?_
    intro wN2 hxN2
    simp only [Fin', List.reverse_nil, List.drop_zero, List.drop_succ_cons, List.take_zero]
    replace f7 := f7.ext hxN2; replace f2 := f2.ext hxN2; replace b2 := b2.ext hxN2; replace hX := hX.trans hxN2; replace hv := hv.ext hxN2
    clear hxN2 hm8 hx8 hxN hxd i1 f8
    go_wp2_with ((first
      | go_big_skip
      | (go_at_call 19; refine (refMBytes_yes (d := m) (u := (.slice none 0 0)) hnr.out (by rw [hm.out]; exact (OwnT.nil 0 _).recs) (by rw [hm.out]; exact hraw.out.1) (by rw [hm.out]; exact hraw.out.2)).mono ?_; rintro e w4 ⟨v11, rfl, o11, hx⟩; have b11 := o11.byt; clear o11; replace f7 := f7.ext hx; replace hv := hv.ext hx; replace f2 := f2.ext hx; replace hX := hX.trans hx; clear hx)
      | ((with_reducible refine at_field ?_); (try refine w_yes _ _ _ rfl rfl rfl ?_); refine w_mfield _ _ _ rfl rfl rfl (by omega) ?_)
      | ((with_reducible refine at_conv ?_); (try refine w_yes _ _ _ rfl rfl rfl ?_); refine w_str _ rfl rfl (v := v11) rfl b11 ?_)
      | ((with_reducible refine at_conv ?_); (try refine w_yes _ _ _ rfl rfl rfl ?_); refine w_str _ rfl rfl (v := v) rfl hv ?_)
      | ((with_reducible refine at_load ?_); refine w_loadN Try.stMsg _ (mRow m (.slice none 0 0)) rfl rfl rfl (by rw [hm.out]; exact f7) rfl mself_at ?_)
      | ((with_reducible refine at_load ?_); (try refine w_yes _ _ _ rfl rfl rfl ?_); refine w_fload _ rfl rfl rfl f7 rfl (agg_of (by kernel_rfl)) ?_)
      | ((with_reducible refine at_store ?_); refine w_agput Try.agMsg (us := mRow m (.slice none 0 0)) (.tmp 2) _ rfl rfl rfl rfl rfl f2 rfl rfl (m_one rfl) ?_; intro w9 hm9 f9; replace f2 := f9; replace hX := hm9.after hX (fun i e => e ▸ hg2); clear hm9 f9)
      | fail) <;> (try simp only [Act.put, List.setIfInBounds_toArray, List.set_cons_zero, List.set_cons_succ]))
    exact bodyPost_ret (ag_two Try.agMsg rfl rfl rfl f2 rfl) rfl (Keep.intro ⟨(.slice none 0 0), by rw [hfin.out]; rfl, hX, by rw [hfin.out]; show OwnT _ _ _ m.bk.txs; rw [hm.out]; exact OwnT.nil _ _⟩)

end Go.Proofs.Ytgbhbifdfcfamaa
