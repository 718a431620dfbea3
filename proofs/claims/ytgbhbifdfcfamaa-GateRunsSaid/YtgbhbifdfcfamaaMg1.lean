/- Same and Copy of package msg. -/
import Derived.Test.YtgbhbifdfcfamaaMg0
namespace Go.Proofs.Ytgbhbifdfcfamaa
set_option maxRecDepth 100000
open Go.RowKit

theorem Try.agBlk : AgT Try.prog 46 5 [.int .i64 0, .int .i64 0, .int .i64 0, .int .i64 0, .slice none 0 0] := AgT.of (by kernel_rfl) (by kernel_rfl) rfl
theorem numsR (d : MsgD) (u : Value) (w : World) : Calls Try.prog 75 #[.agg (mRow d u).toArray] w fun e w' => ∃ v', e = .returned v' ∧ Ext w w' ∧ Sp.p (.val (.agg (i64s d.nums).toArray)) v' w' := by
  refine (nums_any d u w).mono ?_
  rintro e w' ⟨rfl, hx⟩; exact ⟨_, rfl, hx, rfl⟩
theorem bsameR {w : World} {u u2 : Value} {b b2 : BlkD} (h1 : Recs 2 TxR w u b.txs) (h2 : Recs 2 TxR w u2 b2.txs) {q : Bool} (h : b.same b2 = q) : Calls Try.prog 76 #[.agg (bRw b u).toArray, .agg (bRw b2 u2).toArray] w fun e w' => ∃ v', e = .returned v' ∧ Ext w w' ∧ Sp.p (.val (.bool q)) v' w' := by
  refine (BSame_any h1 h2).mono ?_
  rintro e w' ⟨rfl, hx⟩; exact ⟨_, rfl, hx, by rw [h]; rfl⟩

set_option maxRecDepth 100000 in
set_option maxHeartbeats 3200000 in
theorem MSame_any {w : World} {u1 u2 : Value} {a b : MsgD} (h1 : Recs 2 TxR w u1 a.bk.txs) (h2 : Recs 2 TxR w u2 b.bk.txs) : Calls Try.prog 66 #[.agg (mRow a u1).toArray, .agg (mRow b u2).toArray] w fun e w' => e = .returned (.bool (decide (a = b))) ∧ Ext w w' := by
  refine calls_keep ?_
  replace h1 := hide_ h1
  replace h2 := hide_ h2
  have hiff : a = b ↔ a.nums = b.nums ∧ a.tx = b.tx ∧ a.bk = b.bk := MsgD.eq_iff
  by_cases e1 : a.nums = b.nums
  rotate_left
  · have t1 := decide_eq_false e1
    have hdec := hide_ (show decide (a = b) = false from decide_eq_false fun h => e1 (hiff.1 h).1)
    clear hiff e1
    go_enter Try.func66, Try.ntmps66
    go_wp2_with ((first
      | ((with_reducible refine at_box ?_); refine w_box (.tmp 0) (mRow a u1) rfl rfl rfl rfl ?_; intro g1 w1 hg1 hX f1)
      | ((with_reducible refine at_box ?_); refine w_box (.tmp 1) (mRow b u2) rfl rfl rfl rfl ?_; intro g2 w2 hg2 hx2 f2; replace f1 := f1.ext hx2; replace hX := hX.trans hx2; clear hx2)
      | fail) <;> (try simp only [Act.put, List.setIfInBounds_toArray, List.set_cons_zero, List.set_cons_succ]))
    refine wp_region_phx (by kernel_rfl) ?_; intro wd hxd; replace f1 := f1.ext hxd; replace f2 := f2.ext hxd; replace hX := hX.trans hxd
    refine Ph.rest 0 20 (by kernel_rfl) ?_
    refine LinL.step (s := (.val (.agg (mRow a u1).toArray))) [(2, none)] rfl (by kernel_rfl) (op_runs rfl fun σ w' hx hg => ⟨_, runs_loadN (ρ := σ.eval) (w := w') (us := mRow a u1) Try.stMsg (.tmp 2) rfl hg.1 (f1.ext hx) rfl mself_at, rfl⟩) ?_
    refine LinL.step (s := (.val (.agg (i64s a.nums).toArray))) [(5, some 0)] rfl (by kernel_rfl) (op_calls 75 #[(.tmp 5)] #[48] (fun σ => #[.agg (mRow a u1).toArray]) rfl rfl (fun _ _ => rfl) fun σ w' hx hg => ⟨by have h5 : σ.tmps.getD 5 undef = .agg (mRow a u1).toArray := hg.1; simp only [List.map_toArray, List.map_cons, List.map_nil, Act.eval, h5], numsR a u1 _⟩) ?_
    refine LinL.step (s := (.val (.agg (mRow b u2).toArray))) [(3, none)] rfl (by kernel_rfl) (op_runs rfl fun σ w' hx hg => ⟨_, runs_loadN (ρ := σ.eval) (w := w') (us := mRow b u2) Try.stMsg (.tmp 3) rfl hg.1 (f2.ext hx) rfl mself_at, rfl⟩) ?_
    refine LinL.step (s := (.val (.agg (i64s b.nums).toArray))) [(7, some 0)] rfl (by kernel_rfl) (op_calls 75 #[(.tmp 7)] #[48] (fun σ => #[.agg (mRow b u2).toArray]) rfl rfl (fun _ _ => rfl) fun σ w' hx hg => ⟨by have h7 : σ.tmps.getD 7 undef = .agg (mRow b u2).toArray := hg.1; simp only [List.map_toArray, List.map_cons, List.map_nil, Act.eval, h7], numsR b u2 _⟩) ?_
    refine LinL.step (s := (.val (.bool false))) [(6, some 2), (8, some 0)] rfl (by kernel_rfl) (op_runs rfl fun σ w' hx hg => ⟨_, runs_sixeq (ρ := σ.eval) (w := w') (.tmp 6) (.tmp 8) a.nums b.nums rfl hg.1 hg.2.1 rfl rfl t1, rfl⟩) ?_
    refine LinL.step (s := (.val (.bool false))) [(9, some 0)] rfl (by kernel_rfl) (op_copy 9 0 (.val (.bool false)) rfl (.inl rfl) rfl) ?_
    refine LinL.step (s := .val undef) [(2, none), (10, some 0)] rfl (by kernel_rfl) (op_no (reads := [(2, none)]) 5 10 0 true rfl rfl rfl) ?_
    refine LinL.step (s := .val undef) [(11, some 0), (10, some 1)] rfl (by kernel_rfl) (op_no (reads := [(11, some 0)]) 5 10 1 true rfl rfl rfl) ?_
    refine LinL.step (s := .val undef) [(3, none), (10, some 2)] rfl (by kernel_rfl) (op_no (reads := [(3, none)]) 5 10 2 true rfl rfl rfl) ?_
    refine LinL.step (s := .val undef) [(13, some 0), (10, some 3)] rfl (by kernel_rfl) (op_no (reads := [(13, some 0)]) 5 10 3 true rfl rfl rfl) ?_
    refine LinL.step (s := .val undef) [(12, some 2), (14, some 0), (10, some 4)] rfl (by kernel_rfl) (op_no (reads := [(12, some 2), (14, some 0)]) 5 10 4 true rfl rfl rfl) ?_
    refine LinL.step (s := (.val (.bool false))) [(10, some 5), (15, some 0)] rfl (by kernel_rfl) (op_runs rfl fun σ w' hx hg => ⟨_, runs_pick_f (ρ := σ.eval) (w := w') (.tmp 10) (.tmp 15) (.const (.bool false)) rfl hg.1 rfl, rfl⟩) ?_
    refine LinL.step (s := (.val (.bool false))) [(16, some 0)] rfl (by kernel_rfl) (op_copy 16 0 (.val (.bool false)) rfl (.inl rfl) rfl) ?_
    refine LinL.step (s := .val undef) [(2, none), (17, some 0)] rfl (by kernel_rfl) (op_no (reads := [(2, none)]) 12 17 0 true rfl rfl rfl) ?_
    refine LinL.step (s := .val undef) [(18, some 0), (17, some 1)] rfl (by kernel_rfl) (op_no (reads := [(18, some 0)]) 12 17 1 true rfl rfl rfl) ?_
    refine LinL.step (s := .val undef) [(3, none), (17, some 2)] rfl (by kernel_rfl) (op_no (reads := [(3, none)]) 12 17 2 true rfl rfl rfl) ?_
    refine LinL.step (s := .val undef) [(20, some 0), (17, some 3)] rfl (by kernel_rfl) (op_no (reads := [(20, some 0)]) 12 17 3 true rfl rfl rfl) ?_
    refine LinL.step (s := .val undef) [(19, some 2), (21, some 0), (17, some 4)] rfl (by kernel_rfl) (op_no (reads := [(19, some 2), (21, some 0)]) 12 17 4 true rfl rfl rfl) ?_
    refine LinL.step (s := (.val (.bool false))) [(17, some 5), (22, some 0)] rfl (by kernel_rfl) (op_runs rfl fun σ w' hx hg => ⟨_, runs_pick_f (ρ := σ.eval) (w := w') (.tmp 17) (.tmp 22) (.const (.bool false)) rfl hg.1 rfl, rfl⟩) ?_
    refine LinL.step (s := (.val (.bool false))) [(23, some 0)] rfl (by kernel_rfl) (op_copy 23 0 (.val (.bool false)) rfl (.inr rfl) rfl) ?_
    intro wN hxN
    simp only [Fin', List.reverse_cons, List.reverse_nil, List.nil_append, List.cons_append, List.drop_zero, List.take_succ_cons, List.take_zero]
    simp only [Act.put, List.setIfInBounds_toArray, List.set_cons_zero, List.set_cons_succ]
    replace hX := hX.trans hxN
    go_wp2
    go_ret
    exact Keep.intro ⟨by rw [hdec.out]; rfl, hX⟩
  have t1 := decide_eq_true e1
  by_cases e2 : a.tx = b.tx
  rotate_left
  · have t2 := decide_eq_false e2
    have hdec := hide_ (show decide (a = b) = false from decide_eq_false fun h => e2 (hiff.1 h).2.1)
    clear hiff e1 e2
    go_enter Try.func66, Try.ntmps66
    go_wp2_with ((first
      | ((with_reducible refine at_box ?_); refine w_box (.tmp 0) (mRow a u1) rfl rfl rfl rfl ?_; intro g1 w1 hg1 hX f1)
      | ((with_reducible refine at_box ?_); refine w_box (.tmp 1) (mRow b u2) rfl rfl rfl rfl ?_; intro g2 w2 hg2 hx2 f2; replace f1 := f1.ext hx2; replace hX := hX.trans hx2; clear hx2)
      | fail) <;> (try simp only [Act.put, List.setIfInBounds_toArray, List.set_cons_zero, List.set_cons_succ]))
    refine wp_region_phx (by kernel_rfl) ?_; intro wd hxd; replace f1 := f1.ext hxd; replace f2 := f2.ext hxd; replace hX := hX.trans hxd
    refine Ph.rest 0 20 (by kernel_rfl) ?_
    refine LinL.step (s := (.val (.agg (mRow a u1).toArray))) [(2, none)] rfl (by kernel_rfl) (op_runs rfl fun σ w' hx hg => ⟨_, runs_loadN (ρ := σ.eval) (w := w') (us := mRow a u1) Try.stMsg (.tmp 2) rfl hg.1 (f1.ext hx) rfl mself_at, rfl⟩) ?_
    refine LinL.step (s := (.val (.agg (i64s a.nums).toArray))) [(5, some 0)] rfl (by kernel_rfl) (op_calls 75 #[(.tmp 5)] #[48] (fun σ => #[.agg (mRow a u1).toArray]) rfl rfl (fun _ _ => rfl) fun σ w' hx hg => ⟨by have h5 : σ.tmps.getD 5 undef = .agg (mRow a u1).toArray := hg.1; simp only [List.map_toArray, List.map_cons, List.map_nil, Act.eval, h5], numsR a u1 _⟩) ?_
    refine LinL.step (s := (.val (.agg (mRow b u2).toArray))) [(3, none)] rfl (by kernel_rfl) (op_runs rfl fun σ w' hx hg => ⟨_, runs_loadN (ρ := σ.eval) (w := w') (us := mRow b u2) Try.stMsg (.tmp 3) rfl hg.1 (f2.ext hx) rfl mself_at, rfl⟩) ?_
    refine LinL.step (s := (.val (.agg (i64s b.nums).toArray))) [(7, some 0)] rfl (by kernel_rfl) (op_calls 75 #[(.tmp 7)] #[48] (fun σ => #[.agg (mRow b u2).toArray]) rfl rfl (fun _ _ => rfl) fun σ w' hx hg => ⟨by have h7 : σ.tmps.getD 7 undef = .agg (mRow b u2).toArray := hg.1; simp only [List.map_toArray, List.map_cons, List.map_nil, Act.eval, h7], numsR b u2 _⟩) ?_
    refine LinL.step (s := (.val (.bool true))) [(6, some 2), (8, some 0)] rfl (by kernel_rfl) (op_runs rfl fun σ w' hx hg => ⟨_, runs_sixeq (ρ := σ.eval) (w := w') (.tmp 6) (.tmp 8) a.nums b.nums rfl hg.1 hg.2.1 rfl rfl t1, rfl⟩) ?_
    refine LinL.step (s := (.val (.bool true))) [(9, some 0)] rfl (by kernel_rfl) (op_copy 9 0 (.val (.bool true)) rfl (.inl rfl) rfl) ?_
    refine LinL.step (s := (.val (.pointer (some ⟨g1, 6, none⟩)))) [(2, none), (10, some 0)] rfl (by kernel_rfl) (op_yes (reads := [(2, none)]) 5 10 0 true rfl rfl rfl (op_runs rfl fun σ w' hx hg => ⟨_, runs_mfield (ρ := σ.eval) (w := w') (.tmp 2) g1 6 rfl hg.1 (by omega), rfl⟩)) ?_
    refine LinL.step (s := (.val (.agg (tRw a.tx).toArray))) [(11, some 0), (10, some 1)] rfl (by kernel_rfl) (op_yes (reads := [(11, some 0)]) 5 10 1 true rfl rfl rfl (op_runs rfl fun σ w' hx hg => ⟨_, runs_loadN (ρ := σ.eval) (w := w') (us := tRw a.tx) Try.stTxM (.tmp 11) rfl hg.1 (f1.ext hx) rfl (mtx_at a u1), rfl⟩)) ?_
    refine LinL.step (s := (.val (.pointer (some ⟨g2, 6, none⟩)))) [(3, none), (10, some 2)] rfl (by kernel_rfl) (op_yes (reads := [(3, none)]) 5 10 2 true rfl rfl rfl (op_runs rfl fun σ w' hx hg => ⟨_, runs_mfield (ρ := σ.eval) (w := w') (.tmp 3) g2 6 rfl hg.1 (by omega), rfl⟩)) ?_
    refine LinL.step (s := (.val (.agg (tRw b.tx).toArray))) [(13, some 0), (10, some 3)] rfl (by kernel_rfl) (op_yes (reads := [(13, some 0)]) 5 10 3 true rfl rfl rfl (op_runs rfl fun σ w' hx hg => ⟨_, runs_loadN (ρ := σ.eval) (w := w') (us := tRw b.tx) Try.stTxM (.tmp 13) rfl hg.1 (f2.ext hx) rfl (mtx_at b u2), rfl⟩)) ?_
    refine LinL.step (s := (.val (.bool false))) [(12, some 2), (14, some 0), (10, some 4)] rfl (by kernel_rfl) (op_yes (reads := [(12, some 2), (14, some 0)]) 5 10 4 true rfl rfl rfl (op_runs rfl fun σ w' hx hg => ⟨_, runs_txeq (ρ := σ.eval) (w := w') (.tmp 12) (.tmp 14) a.tx b.tx rfl hg.1 hg.2.1, by rw [t2]; rfl⟩)) ?_
    refine LinL.step (s := (.val (.bool false))) [(10, some 5), (15, some 0)] rfl (by kernel_rfl) (op_runs rfl fun σ w' hx hg => ⟨_, runs_pick_t (ρ := σ.eval) (w := w') (.tmp 10) (.tmp 15) (.const (.bool false)) rfl hg.1 hg.2.1, rfl⟩) ?_
    refine LinL.step (s := (.val (.bool false))) [(16, some 0)] rfl (by kernel_rfl) (op_copy 16 0 (.val (.bool false)) rfl (.inl rfl) rfl) ?_
    refine LinL.step (s := .val undef) [(2, none), (17, some 0)] rfl (by kernel_rfl) (op_no (reads := [(2, none)]) 12 17 0 true rfl rfl rfl) ?_
    refine LinL.step (s := .val undef) [(18, some 0), (17, some 1)] rfl (by kernel_rfl) (op_no (reads := [(18, some 0)]) 12 17 1 true rfl rfl rfl) ?_
    refine LinL.step (s := .val undef) [(3, none), (17, some 2)] rfl (by kernel_rfl) (op_no (reads := [(3, none)]) 12 17 2 true rfl rfl rfl) ?_
    refine LinL.step (s := .val undef) [(20, some 0), (17, some 3)] rfl (by kernel_rfl) (op_no (reads := [(20, some 0)]) 12 17 3 true rfl rfl rfl) ?_
    refine LinL.step (s := .val undef) [(19, some 2), (21, some 0), (17, some 4)] rfl (by kernel_rfl) (op_no (reads := [(19, some 2), (21, some 0)]) 12 17 4 true rfl rfl rfl) ?_
    refine LinL.step (s := (.val (.bool false))) [(17, some 5), (22, some 0)] rfl (by kernel_rfl) (op_runs rfl fun σ w' hx hg => ⟨_, runs_pick_f (ρ := σ.eval) (w := w') (.tmp 17) (.tmp 22) (.const (.bool false)) rfl hg.1 rfl, rfl⟩) ?_
    refine LinL.step (s := (.val (.bool false))) [(23, some 0)] rfl (by kernel_rfl) (op_copy 23 0 (.val (.bool false)) rfl (.inr rfl) rfl) ?_
    intro wN hxN
    simp only [Fin', List.reverse_cons, List.reverse_nil, List.nil_append, List.cons_append, List.drop_zero, List.take_succ_cons, List.take_zero]
    simp only [Act.put, List.setIfInBounds_toArray, List.set_cons_zero, List.set_cons_succ]
    replace hX := hX.trans hxN
    go_wp2
    go_ret
    exact Keep.intro ⟨by rw [hdec.out]; rfl, hX⟩
  · have t2 := decide_eq_true e2
    have hdec := hide_ (show decide (a = b) = a.bk.same b.bk from by
      have : a = b ↔ a.bk.same b.bk = true := hiff.trans ⟨fun h => BlkD.same_iff.2 h.2.2, fun h => ⟨e1, e2, BlkD.same_iff.1 h⟩⟩
      cases hq : a.bk.same b.bk with
      | true => exact decide_eq_true (this.2 hq)
      | false => exact decide_eq_false fun h => by rw [this.1 h] at hq; cases hq)
    clear hiff e1 e2
    cases hb : a.bk.same b.bk
    · rw [hb] at hdec
      go_enter Try.func66, Try.ntmps66
      go_wp2_with ((first
        | ((with_reducible refine at_box ?_); refine w_box (.tmp 0) (mRow a u1) rfl rfl rfl rfl ?_; intro g1 w1 hg1 hX f1)
        | ((with_reducible refine at_box ?_); refine w_box (.tmp 1) (mRow b u2) rfl rfl rfl rfl ?_; intro g2 w2 hg2 hx2 f2; replace f1 := f1.ext hx2; replace hX := hX.trans hx2; clear hx2)
        | fail) <;> (try simp only [Act.put, List.setIfInBounds_toArray, List.set_cons_zero, List.set_cons_succ]))
      refine wp_region_phx (by kernel_rfl) ?_; intro wd hxd; replace f1 := f1.ext hxd; replace f2 := f2.ext hxd; replace hX := hX.trans hxd
      refine Ph.rest 0 20 (by kernel_rfl) ?_
      refine LinL.step (s := (.val (.agg (mRow a u1).toArray))) [(2, none)] rfl (by kernel_rfl) (op_runs rfl fun σ w' hx hg => ⟨_, runs_loadN (ρ := σ.eval) (w := w') (us := mRow a u1) Try.stMsg (.tmp 2) rfl hg.1 (f1.ext hx) rfl mself_at, rfl⟩) ?_
      refine LinL.step (s := (.val (.agg (i64s a.nums).toArray))) [(5, some 0)] rfl (by kernel_rfl) (op_calls 75 #[(.tmp 5)] #[48] (fun σ => #[.agg (mRow a u1).toArray]) rfl rfl (fun _ _ => rfl) fun σ w' hx hg => ⟨by have h5 : σ.tmps.getD 5 undef = .agg (mRow a u1).toArray := hg.1; simp only [List.map_toArray, List.map_cons, List.map_nil, Act.eval, h5], numsR a u1 _⟩) ?_
      refine LinL.step (s := (.val (.agg (mRow b u2).toArray))) [(3, none)] rfl (by kernel_rfl) (op_runs rfl fun σ w' hx hg => ⟨_, runs_loadN (ρ := σ.eval) (w := w') (us := mRow b u2) Try.stMsg (.tmp 3) rfl hg.1 (f2.ext hx) rfl mself_at, rfl⟩) ?_
      refine LinL.step (s := (.val (.agg (i64s b.nums).toArray))) [(7, some 0)] rfl (by kernel_rfl) (op_calls 75 #[(.tmp 7)] #[48] (fun σ => #[.agg (mRow b u2).toArray]) rfl rfl (fun _ _ => rfl) fun σ w' hx hg => ⟨by have h7 : σ.tmps.getD 7 undef = .agg (mRow b u2).toArray := hg.1; simp only [List.map_toArray, List.map_cons, List.map_nil, Act.eval, h7], numsR b u2 _⟩) ?_
      refine LinL.step (s := (.val (.bool true))) [(6, some 2), (8, some 0)] rfl (by kernel_rfl) (op_runs rfl fun σ w' hx hg => ⟨_, runs_sixeq (ρ := σ.eval) (w := w') (.tmp 6) (.tmp 8) a.nums b.nums rfl hg.1 hg.2.1 rfl rfl t1, rfl⟩) ?_
      refine LinL.step (s := (.val (.bool true))) [(9, some 0)] rfl (by kernel_rfl) (op_copy 9 0 (.val (.bool true)) rfl (.inl rfl) rfl) ?_
      refine LinL.step (s := (.val (.pointer (some ⟨g1, 6, none⟩)))) [(2, none), (10, some 0)] rfl (by kernel_rfl) (op_yes (reads := [(2, none)]) 5 10 0 true rfl rfl rfl (op_runs rfl fun σ w' hx hg => ⟨_, runs_mfield (ρ := σ.eval) (w := w') (.tmp 2) g1 6 rfl hg.1 (by omega), rfl⟩)) ?_
      refine LinL.step (s := (.val (.agg (tRw a.tx).toArray))) [(11, some 0), (10, some 1)] rfl (by kernel_rfl) (op_yes (reads := [(11, some 0)]) 5 10 1 true rfl rfl rfl (op_runs rfl fun σ w' hx hg => ⟨_, runs_loadN (ρ := σ.eval) (w := w') (us := tRw a.tx) Try.stTxM (.tmp 11) rfl hg.1 (f1.ext hx) rfl (mtx_at a u1), rfl⟩)) ?_
      refine LinL.step (s := (.val (.pointer (some ⟨g2, 6, none⟩)))) [(3, none), (10, some 2)] rfl (by kernel_rfl) (op_yes (reads := [(3, none)]) 5 10 2 true rfl rfl rfl (op_runs rfl fun σ w' hx hg => ⟨_, runs_mfield (ρ := σ.eval) (w := w') (.tmp 3) g2 6 rfl hg.1 (by omega), rfl⟩)) ?_
      refine LinL.step (s := (.val (.agg (tRw b.tx).toArray))) [(13, some 0), (10, some 3)] rfl (by kernel_rfl) (op_yes (reads := [(13, some 0)]) 5 10 3 true rfl rfl rfl (op_runs rfl fun σ w' hx hg => ⟨_, runs_loadN (ρ := σ.eval) (w := w') (us := tRw b.tx) Try.stTxM (.tmp 13) rfl hg.1 (f2.ext hx) rfl (mtx_at b u2), rfl⟩)) ?_
      refine LinL.step (s := (.val (.bool true))) [(12, some 2), (14, some 0), (10, some 4)] rfl (by kernel_rfl) (op_yes (reads := [(12, some 2), (14, some 0)]) 5 10 4 true rfl rfl rfl (op_runs rfl fun σ w' hx hg => ⟨_, runs_txeq (ρ := σ.eval) (w := w') (.tmp 12) (.tmp 14) a.tx b.tx rfl hg.1 hg.2.1, by rw [t2]; rfl⟩)) ?_
      refine LinL.step (s := (.val (.bool true))) [(10, some 5), (15, some 0)] rfl (by kernel_rfl) (op_runs rfl fun σ w' hx hg => ⟨_, runs_pick_t (ρ := σ.eval) (w := w') (.tmp 10) (.tmp 15) (.const (.bool false)) rfl hg.1 hg.2.1, rfl⟩) ?_
      refine LinL.step (s := (.val (.bool true))) [(16, some 0)] rfl (by kernel_rfl) (op_copy 16 0 (.val (.bool true)) rfl (.inl rfl) rfl) ?_
      refine LinL.step (s := (.val (.pointer (some ⟨g1, 8, none⟩)))) [(2, none), (17, some 0)] rfl (by kernel_rfl) (op_yes (reads := [(2, none)]) 12 17 0 true rfl rfl rfl (op_runs rfl fun σ w' hx hg => ⟨_, runs_mfield (ρ := σ.eval) (w := w') (.tmp 2) g1 7 rfl hg.1 (by omega), rfl⟩)) ?_
      refine LinL.step (s := (.val (.agg (bRw a.bk u1).toArray))) [(18, some 0), (17, some 1)] rfl (by kernel_rfl) (op_yes (reads := [(18, some 0)]) 12 17 1 true rfl rfl rfl (op_runs rfl fun σ w' hx hg => ⟨_, runs_loadN (ρ := σ.eval) (w := w') (us := bRw a.bk u1) Try.stBlkM (.tmp 18) rfl hg.1 (f1.ext hx) rfl (mbk_at a u1), rfl⟩)) ?_
      refine LinL.step (s := (.val (.pointer (some ⟨g2, 8, none⟩)))) [(3, none), (17, some 2)] rfl (by kernel_rfl) (op_yes (reads := [(3, none)]) 12 17 2 true rfl rfl rfl (op_runs rfl fun σ w' hx hg => ⟨_, runs_mfield (ρ := σ.eval) (w := w') (.tmp 3) g2 7 rfl hg.1 (by omega), rfl⟩)) ?_
      refine LinL.step (s := (.val (.agg (bRw b.bk u2).toArray))) [(20, some 0), (17, some 3)] rfl (by kernel_rfl) (op_yes (reads := [(20, some 0)]) 12 17 3 true rfl rfl rfl (op_runs rfl fun σ w' hx hg => ⟨_, runs_loadN (ρ := σ.eval) (w := w') (us := bRw b.bk u2) Try.stBlkM (.tmp 20) rfl hg.1 (f2.ext hx) rfl (mbk_at b u2), rfl⟩)) ?_
      refine LinL.step (s := (.val (.bool false))) [(19, some 2), (21, some 0), (17, some 4)] rfl (by kernel_rfl) (op_yes (reads := [(19, some 2), (21, some 0)]) 12 17 4 true rfl rfl rfl (op_calls 76 #[(.tmp 19), (.tmp 21)] #[46, 46] (fun σ => #[.agg (bRw a.bk u1).toArray, .agg (bRw b.bk u2).toArray]) rfl rfl (fun _ _ => rfl) fun σ w' hx hg => ⟨by have h19 : σ.tmps.getD 19 undef = .agg (bRw a.bk u1).toArray := hg.1; have h21 : σ.tmps.getD 21 undef = .agg (bRw b.bk u2).toArray := hg.2.1; simp only [List.map_toArray, List.map_cons, List.map_nil, Act.eval, h19, h21], bsameR (h1.out.ext TxR.stays (hX.trans hx)) (h2.out.ext TxR.stays (hX.trans hx)) hb⟩)) ?_
      refine LinL.step (s := (.val (.bool false))) [(17, some 5), (22, some 0)] rfl (by kernel_rfl) (op_runs rfl fun σ w' hx hg => ⟨_, runs_pick_t (ρ := σ.eval) (w := w') (.tmp 17) (.tmp 22) (.const (.bool false)) rfl hg.1 hg.2.1, rfl⟩) ?_
      refine LinL.step (s := (.val (.bool false))) [(23, some 0)] rfl (by kernel_rfl) (op_copy 23 0 (.val (.bool false)) rfl (.inr rfl) rfl) ?_
      intro wN hxN
      simp only [Fin', List.reverse_cons, List.reverse_nil, List.nil_append, List.cons_append, List.drop_zero, List.take_succ_cons, List.take_zero]
      simp only [Act.put, List.setIfInBounds_toArray, List.set_cons_zero, List.set_cons_succ]
      replace hX := hX.trans hxN
      go_wp2
      go_ret
      exact Keep.intro ⟨by rw [hdec.out]; rfl, hX⟩
    · rw [hb] at hdec
      go_enter Try.func66, Try.ntmps66
      go_wp2_with ((first
        | ((with_reducible refine at_box ?_); refine w_box (.tmp 0) (mRow a u1) rfl rfl rfl rfl ?_; intro g1 w1 hg1 hX f1)
        | ((with_reducible refine at_box ?_); refine w_box (.tmp 1) (mRow b u2) rfl rfl rfl rfl ?_; intro g2 w2 hg2 hx2 f2; replace f1 := f1.ext hx2; replace hX := hX.trans hx2; clear hx2)
        | fail) <;> (try simp only [Act.put, List.setIfInBounds_toArray, List.set_cons_zero, List.set_cons_succ]))
      refine wp_region_phx (by kernel_rfl) ?_; intro wd hxd; replace f1 := f1.ext hxd; replace f2 := f2.ext hxd; replace hX := hX.trans hxd
      refine Ph.rest 0 20 (by kernel_rfl) ?_
      refine LinL.step (s := (.val (.agg (mRow a u1).toArray))) [(2, none)] rfl (by kernel_rfl) (op_runs rfl fun σ w' hx hg => ⟨_, runs_loadN (ρ := σ.eval) (w := w') (us := mRow a u1) Try.stMsg (.tmp 2) rfl hg.1 (f1.ext hx) rfl mself_at, rfl⟩) ?_
      refine LinL.step (s := (.val (.agg (i64s a.nums).toArray))) [(5, some 0)] rfl (by kernel_rfl) (op_calls 75 #[(.tmp 5)] #[48] (fun σ => #[.agg (mRow a u1).toArray]) rfl rfl (fun _ _ => rfl) fun σ w' hx hg => ⟨by have h5 : σ.tmps.getD 5 undef = .agg (mRow a u1).toArray := hg.1; simp only [List.map_toArray, List.map_cons, List.map_nil, Act.eval, h5], numsR a u1 _⟩) ?_
      refine LinL.step (s := (.val (.agg (mRow b u2).toArray))) [(3, none)] rfl (by kernel_rfl) (op_runs rfl fun σ w' hx hg => ⟨_, runs_loadN (ρ := σ.eval) (w := w') (us := mRow b u2) Try.stMsg (.tmp 3) rfl hg.1 (f2.ext hx) rfl mself_at, rfl⟩) ?_
      refine LinL.step (s := (.val (.agg (i64s b.nums).toArray))) [(7, some 0)] rfl (by kernel_rfl) (op_calls 75 #[(.tmp 7)] #[48] (fun σ => #[.agg (mRow b u2).toArray]) rfl rfl (fun _ _ => rfl) fun σ w' hx hg => ⟨by have h7 : σ.tmps.getD 7 undef = .agg (mRow b u2).toArray := hg.1; simp only [List.map_toArray, List.map_cons, List.map_nil, Act.eval, h7], numsR b u2 _⟩) ?_
      refine LinL.step (s := (.val (.bool true))) [(6, some 2), (8, some 0)] rfl (by kernel_rfl) (op_runs rfl fun σ w' hx hg => ⟨_, runs_sixeq (ρ := σ.eval) (w := w') (.tmp 6) (.tmp 8) a.nums b.nums rfl hg.1 hg.2.1 rfl rfl t1, rfl⟩) ?_
      refine LinL.step (s := (.val (.bool true))) [(9, some 0)] rfl (by kernel_rfl) (op_copy 9 0 (.val (.bool true)) rfl (.inl rfl) rfl) ?_
      refine LinL.step (s := (.val (.pointer (some ⟨g1, 6, none⟩)))) [(2, none), (10, some 0)] rfl (by kernel_rfl) (op_yes (reads := [(2, none)]) 5 10 0 true rfl rfl rfl (op_runs rfl fun σ w' hx hg => ⟨_, runs_mfield (ρ := σ.eval) (w := w') (.tmp 2) g1 6 rfl hg.1 (by omega), rfl⟩)) ?_
      refine LinL.step (s := (.val (.agg (tRw a.tx).toArray))) [(11, some 0), (10, some 1)] rfl (by kernel_rfl) (op_yes (reads := [(11, some 0)]) 5 10 1 true rfl rfl rfl (op_runs rfl fun σ w' hx hg => ⟨_, runs_loadN (ρ := σ.eval) (w := w') (us := tRw a.tx) Try.stTxM (.tmp 11) rfl hg.1 (f1.ext hx) rfl (mtx_at a u1), rfl⟩)) ?_
      refine LinL.step (s := (.val (.pointer (some ⟨g2, 6, none⟩)))) [(3, none), (10, some 2)] rfl (by kernel_rfl) (op_yes (reads := [(3, none)]) 5 10 2 true rfl rfl rfl (op_runs rfl fun σ w' hx hg => ⟨_, runs_mfield (ρ := σ.eval) (w := w') (.tmp 3) g2 6 rfl hg.1 (by omega), rfl⟩)) ?_
      refine LinL.step (s := (.val (.agg (tRw b.tx).toArray))) [(13, some 0), (10, some 3)] rfl (by kernel_rfl) (op_yes (reads := [(13, some 0)]) 5 10 3 true rfl rfl rfl (op_runs rfl fun σ w' hx hg => ⟨_, runs_loadN (ρ := σ.eval) (w := w') (us := tRw b.tx) Try.stTxM (.tmp 13) rfl hg.1 (f2.ext hx) rfl (mtx_at b u2), rfl⟩)) ?_
      refine LinL.step (s := (.val (.bool true))) [(12, some 2), (14, some 0), (10, some 4)] rfl (by kernel_rfl) (op_yes (reads := [(12, some 2), (14, some 0)]) 5 10 4 true rfl rfl rfl (op_runs rfl fun σ w' hx hg => ⟨_, runs_txeq (ρ := σ.eval) (w := w') (.tmp 12) (.tmp 14) a.tx b.tx rfl hg.1 hg.2.1, by rw [t2]; rfl⟩)) ?_
      refine LinL.step (s := (.val (.bool true))) [(10, some 5), (15, some 0)] rfl (by kernel_rfl) (op_runs rfl fun σ w' hx hg => ⟨_, runs_pick_t (ρ := σ.eval) (w := w') (.tmp 10) (.tmp 15) (.const (.bool false)) rfl hg.1 hg.2.1, rfl⟩) ?_
      refine LinL.step (s := (.val (.bool true))) [(16, some 0)] rfl (by kernel_rfl) (op_copy 16 0 (.val (.bool true)) rfl (.inl rfl) rfl) ?_
      refine LinL.step (s := (.val (.pointer (some ⟨g1, 8, none⟩)))) [(2, none), (17, some 0)] rfl (by kernel_rfl) (op_yes (reads := [(2, none)]) 12 17 0 true rfl rfl rfl (op_runs rfl fun σ w' hx hg => ⟨_, runs_mfield (ρ := σ.eval) (w := w') (.tmp 2) g1 7 rfl hg.1 (by omega), rfl⟩)) ?_
      refine LinL.step (s := (.val (.agg (bRw a.bk u1).toArray))) [(18, some 0), (17, some 1)] rfl (by kernel_rfl) (op_yes (reads := [(18, some 0)]) 12 17 1 true rfl rfl rfl (op_runs rfl fun σ w' hx hg => ⟨_, runs_loadN (ρ := σ.eval) (w := w') (us := bRw a.bk u1) Try.stBlkM (.tmp 18) rfl hg.1 (f1.ext hx) rfl (mbk_at a u1), rfl⟩)) ?_
      refine LinL.step (s := (.val (.pointer (some ⟨g2, 8, none⟩)))) [(3, none), (17, some 2)] rfl (by kernel_rfl) (op_yes (reads := [(3, none)]) 12 17 2 true rfl rfl rfl (op_runs rfl fun σ w' hx hg => ⟨_, runs_mfield (ρ := σ.eval) (w := w') (.tmp 3) g2 7 rfl hg.1 (by omega), rfl⟩)) ?_
      refine LinL.step (s := (.val (.agg (bRw b.bk u2).toArray))) [(20, some 0), (17, some 3)] rfl (by kernel_rfl) (op_yes (reads := [(20, some 0)]) 12 17 3 true rfl rfl rfl (op_runs rfl fun σ w' hx hg => ⟨_, runs_loadN (ρ := σ.eval) (w := w') (us := bRw b.bk u2) Try.stBlkM (.tmp 20) rfl hg.1 (f2.ext hx) rfl (mbk_at b u2), rfl⟩)) ?_
      refine LinL.step (s := (.val (.bool true))) [(19, some 2), (21, some 0), (17, some 4)] rfl (by kernel_rfl) (op_yes (reads := [(19, some 2), (21, some 0)]) 12 17 4 true rfl rfl rfl (op_calls 76 #[(.tmp 19), (.tmp 21)] #[46, 46] (fun σ => #[.agg (bRw a.bk u1).toArray, .agg (bRw b.bk u2).toArray]) rfl rfl (fun _ _ => rfl) fun σ w' hx hg => ⟨by have h19 : σ.tmps.getD 19 undef = .agg (bRw a.bk u1).toArray := hg.1; have h21 : σ.tmps.getD 21 undef = .agg (bRw b.bk u2).toArray := hg.2.1; simp only [List.map_toArray, List.map_cons, List.map_nil, Act.eval, h19, h21], bsameR (h1.out.ext TxR.stays (hX.trans hx)) (h2.out.ext TxR.stays (hX.trans hx)) hb⟩)) ?_
      refine LinL.step (s := (.val (.bool true))) [(17, some 5), (22, some 0)] rfl (by kernel_rfl) (op_runs rfl fun σ w' hx hg => ⟨_, runs_pick_t (ρ := σ.eval) (w := w') (.tmp 17) (.tmp 22) (.const (.bool false)) rfl hg.1 hg.2.1, rfl⟩) ?_
      refine LinL.step (s := (.val (.bool true))) [(23, some 0)] rfl (by kernel_rfl) (op_copy 23 0 (.val (.bool true)) rfl (.inr rfl) rfl) ?_
      intro wN hxN
      simp only [Fin', List.reverse_cons, List.reverse_nil, List.nil_append, List.cons_append, List.drop_zero, List.take_succ_cons, List.take_zero]
      simp only [Act.put, List.setIfInBounds_toArray, List.set_cons_zero, List.set_cons_succ]
      replace hX := hX.trans hxN
      go_wp2
      go_ret
      exact Keep.intro ⟨by rw [hdec.out]; rfl, hX⟩

end Go.Proofs.Ytgbhbifdfcfamaa
