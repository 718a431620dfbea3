/- The statement BlockApart: two blocks have one name just if they have one slot, one miner and one variant; the name says slot and miner, and a child's is greater. No condition. -/
import Derived.Test.YtcjmcnepfnhnlaaBNames
namespace Go.Proofs.Ytcjmcnepfnhnlaa
open Go.RowKit Go.ChangeShapes Go.WideShapes Go.ChangeAt

theorem nameR {w : World} {u : Value} {b : BlkD} {x : Int} (hu : Recs 2 TxR w u b.txs) (hp : I64 b.parent) (hx : b.name = x) : Calls Try.prog 16 #[.agg #[.int .i64 b.slot, .int .i64 b.miner, .int .i64 b.var, .int .i64 b.parent, u]] w fun e w' => ∃ v', e = .returned v' ∧ Ext w w' ∧ Sp.p (.val (.int .i64 x)) v' w' := by
  have h := BName_any hu hp
  rw [hx] at h; exact retR h
theorem slotR {w : World} {x s : Int} (h : I64 x) (hs : nmS x = s) : Calls Try.prog 21 #[.int .i64 x] w fun e w' => ∃ v', e = .returned v' ∧ Ext w w' ∧ Sp.p (.val (.int .i64 s)) v' w' := by
  have k := Slot_any x h.1 h.2 w
  rw [hs] at k; exact retR k
theorem minerR {w : World} {x s : Int} (h : I64 x) (hs : nmM x = s) : Calls Try.prog 22 #[.int .i64 x] w fun e w' => ∃ v', e = .returned v' ∧ Ext w w' ∧ Sp.p (.val (.int .i64 s)) v' w' := by
  have k := Miner_any x h.1 h.2 w
  rw [hs] at k; exact retR k
theorem BlkD.Right.nm_i64 {b : BlkD} (h : b.Right) : I64 b.nm := by
  have h1 := h.s; have h2 := h.m; have h3 := h.v
  unfold BlkD.nm I64; omega

set_option maxRecDepth 100000 in
set_option maxHeartbeats 6400000 in
theorem blockApart_law (row : List Value) (b : BlkD) (row2 : List Value) (b2 : BlkD) (W : World) (hb : BlkR W row b) (hb2 : BlkR W row2 b2) :
    Calls Try.prog 8 #[.agg row.toArray, .agg row2.toArray] W fun e w' => e = .returned (.bool true) ∧ Ext W w' := by
  obtain ⟨⟨u, rfl, r1⟩, hraw⟩ := hb
  obtain ⟨⟨u2, rfl, r2⟩, hraw2⟩ := hb2
  refine calls_keep ?_
  have hp := hide_ (show I64 b.parent from hraw.parent)
  have hp2 := hide_ (show I64 b2.parent from hraw2.parent)
  replace r1 := hide_ r1
  replace r2 := hide_ r2
  clear hraw hraw2
  by_cases h1 : b.Right
  rotate_left
  · have hd1 := hide_ (decide_eq_false h1)
    clear h1
    go_enter Try.func8, Try.ntmps8
    go_wp2_with ((first
      | ((with_reducible refine at_box ?_); refine w_box (.tmp 0) [.int .i64 b.slot, .int .i64 b.miner, .int .i64 b.var, .int .i64 b.parent, u] rfl rfl rfl rfl ?_; intro g1 w1 hg1 hX f1)
      | ((with_reducible refine at_box ?_); refine w_box (.tmp 1) [.int .i64 b2.slot, .int .i64 b2.miner, .int .i64 b2.var, .int .i64 b2.parent, u2] rfl rfl rfl rfl ?_; intro g2 w2 hg2 hx f2; replace f1 := f1.ext hx; replace hX := hX.trans hx; clear hx)
      | (go_at_call 11; refine (alive_any _).mono ?_; rintro e w3 ⟨rfl, hx⟩; replace f1 := f1.ext hx; replace f2 := f2.ext hx; replace hX := hX.trans hx; clear hx)
      | (go_at_call 14; ((with_reducible refine (BRight_any (b := b) (u := u) (r1.out.ext TxR.stays hX) hp.out).mono ?_); rintro e w4 ⟨rfl, hx⟩; rw [hd1.out]; replace f1 := f1.ext hx; replace f2 := f2.ext hx; replace hX := hX.trans hx; clear hx))
      | ((with_reducible refine at_load ?_); (try refine w_yes _ _ _ rfl rfl rfl ?_); refine w_aload Try.stBlk (.tmp 2) rfl rfl rfl f1 rfl ?_)
      | fail) <;> (try simp only [Act.put, List.setIfInBounds_toArray, List.set_cons_zero, List.set_cons_succ]))
    go_ret
    exact Keep.intro ⟨rfl, hX⟩
  have hd1 := hide_ (decide_eq_true h1)
  by_cases h2 : b2.Right
  rotate_left
  · have hd2 := hide_ (decide_eq_false h2)
    clear h1 h2
    go_enter Try.func8, Try.ntmps8
    go_wp2_with ((first
      | ((with_reducible refine at_box ?_); refine w_box (.tmp 0) [.int .i64 b.slot, .int .i64 b.miner, .int .i64 b.var, .int .i64 b.parent, u] rfl rfl rfl rfl ?_; intro g1 w1 hg1 hX f1)
      | ((with_reducible refine at_box ?_); refine w_box (.tmp 1) [.int .i64 b2.slot, .int .i64 b2.miner, .int .i64 b2.var, .int .i64 b2.parent, u2] rfl rfl rfl rfl ?_; intro g2 w2 hg2 hx f2; replace f1 := f1.ext hx; replace hX := hX.trans hx; clear hx)
      | (go_at_call 11; refine (alive_any _).mono ?_; rintro e w3 ⟨rfl, hx⟩; replace f1 := f1.ext hx; replace f2 := f2.ext hx; replace hX := hX.trans hx; clear hx)
      | (go_at_call 14; ((with_reducible refine (BRight_any (b := b) (u := u) (r1.out.ext TxR.stays hX) hp.out).mono ?_); rintro e w4 ⟨rfl, hx⟩; rw [hd1.out]; replace f1 := f1.ext hx; replace f2 := f2.ext hx; replace hX := hX.trans hx; clear hx))
      | (go_at_call 14; ((with_reducible refine (BRight_any (b := b2) (u := u2) (r2.out.ext TxR.stays hX) hp2.out).mono ?_); rintro e w5 ⟨rfl, hx⟩; rw [hd2.out]; replace f1 := f1.ext hx; replace f2 := f2.ext hx; replace hX := hX.trans hx; clear hx))
      | ((with_reducible refine at_load ?_); (try refine w_yes _ _ _ rfl rfl rfl ?_); refine w_aload Try.stBlk (.tmp 2) rfl rfl rfl f1 rfl ?_)
      | ((with_reducible refine at_load ?_); (try refine w_yes _ _ _ rfl rfl rfl ?_); refine w_aload Try.stBlk (.tmp 3) rfl rfl rfl f2 rfl ?_)
      | fail) <;> (try simp only [Act.put, List.setIfInBounds_toArray, List.set_cons_zero, List.set_cons_succ]))
    go_ret
    exact Keep.intro ⟨rfl, hX⟩
  have hd2 := hide_ (decide_eq_true h2)
  obtain ⟨x, hnx⟩ : ∃ x, b.name = x := ⟨_, rfl⟩
  obtain ⟨y, hny⟩ : ∃ y, b2.name = y := ⟨_, rfl⟩
  have ex : b.nm = x := by rw [← hnx]; exact (if_pos h1).symm
  have ey : b2.nm = y := by rw [← hny]; exact (if_pos h2).symm
  have hn1 := hide_ hnx
  have hn2 := hide_ hny
  have hI := hide_ (show I64 x from ex ▸ h1.nm_i64)
  have hS := hide_ (show nmS x = b.slot from ex ▸ nmS_nm h1)
  have hM := hide_ (show nmM x = b.miner from ex ▸ nmM_nm h1)
  have hiff := hide_ (show x = y ↔ b.slot = b2.slot ∧ b.miner = b2.miner ∧ b.var = b2.var from by rw [← ex, ← ey]; exact BlkD.nm_inj h1 h2)
  have hlt := hide_ (show b.parent < x from ex ▸ h1.parent_lt)
  clear h1 h2 hnx hny ex ey
  go_enter Try.func8, Try.ntmps8
  go_wp2_with ((first
    | ((with_reducible refine at_box ?_); refine w_box (.tmp 0) [.int .i64 b.slot, .int .i64 b.miner, .int .i64 b.var, .int .i64 b.parent, u] rfl rfl rfl rfl ?_; intro g1 w1 hg1 hX f1)
    | ((with_reducible refine at_box ?_); refine w_box (.tmp 1) [.int .i64 b2.slot, .int .i64 b2.miner, .int .i64 b2.var, .int .i64 b2.parent, u2] rfl rfl rfl rfl ?_; intro g2 w2 hg2 hx f2; replace f1 := f1.ext hx; replace hX := hX.trans hx; clear hx)
    | (go_at_call 11; refine (alive_any _).mono ?_; rintro e w3 ⟨rfl, hx⟩; replace f1 := f1.ext hx; replace f2 := f2.ext hx; replace hX := hX.trans hx; clear hx)
    | (go_at_call 14; ((with_reducible refine (BRight_any (b := b) (u := u) (r1.out.ext TxR.stays hX) hp.out).mono ?_); rintro e w4 ⟨rfl, hx⟩; rw [hd1.out]; replace f1 := f1.ext hx; replace f2 := f2.ext hx; replace hX := hX.trans hx; clear hx))
    | (go_at_call 14; ((with_reducible refine (BRight_any (b := b2) (u := u2) (r2.out.ext TxR.stays hX) hp2.out).mono ?_); rintro e w5 ⟨rfl, hx⟩; rw [hd2.out]; replace f1 := f1.ext hx; replace f2 := f2.ext hx; replace hX := hX.trans hx; clear hx))
    | ((with_reducible refine at_load ?_); (try refine w_yes _ _ _ rfl rfl rfl ?_); refine w_aload Try.stBlk (.tmp 2) rfl rfl rfl f1 rfl ?_)
    | ((with_reducible refine at_load ?_); (try refine w_yes _ _ _ rfl rfl rfl ?_); refine w_aload Try.stBlk (.tmp 3) rfl rfl rfl f2 rfl ?_)
    | fail) <;> (try simp only [Act.put, List.setIfInBounds_toArray, List.set_cons_zero, List.set_cons_succ]))
  refine wp_region_phx (by kernel_rfl) ?_; intro wd hxd; replace f1 := f1.ext hxd; replace f2 := f2.ext hxd; replace hX := hX.trans hxd; have s1 := r1.out.ext TxR.stays hX; have s2 := r2.out.ext TxR.stays hX
  refine Ph.rest 0 6 (by kernel_rfl) ?_
  refine LinL.step (s := (.val (.agg #[.int .i64 b.slot, .int .i64 b.miner, .int .i64 b.var, .int .i64 b.parent, u]))) [(2, none)] rfl (by kernel_rfl) (op_runs rfl fun σ w' hx hg => ⟨_, runs_aload (ρ := σ.eval) (w := w') Try.stBlk (.tmp 2) rfl hg.1 (f1.ext hx) rfl, rfl⟩) ?_
  refine LinL.step (s := (.val (.int .i64 x))) [(17, some 0)] rfl (by kernel_rfl) (op_calls 16 #[(.tmp 17)] #[24] (fun σ => #[.agg #[.int .i64 b.slot, .int .i64 b.miner, .int .i64 b.var, .int .i64 b.parent, u]]) rfl rfl (fun _ _ => rfl) fun σ w' hx hg => ⟨by have h17 : σ.tmps.getD 17 undef = .agg #[.int .i64 b.slot, .int .i64 b.miner, .int .i64 b.var, .int .i64 b.parent, u] := hg.1; simp only [List.map_toArray, List.map_cons, List.map_nil, Act.eval, h17], nameR (b := b) (s1.ext TxR.stays hx) hp.out hn1.out⟩) ?_
  refine LinL.step (s := (.val (.agg #[.int .i64 b2.slot, .int .i64 b2.miner, .int .i64 b2.var, .int .i64 b2.parent, u2]))) [(3, none)] rfl (by kernel_rfl) (op_runs rfl fun σ w' hx hg => ⟨_, runs_aload (ρ := σ.eval) (w := w') Try.stBlk (.tmp 3) rfl hg.1 (f2.ext hx) rfl, rfl⟩) ?_
  refine LinL.step (s := (.val (.int .i64 y))) [(19, some 0)] rfl (by kernel_rfl) (op_calls 16 #[(.tmp 19)] #[24] (fun σ => #[.agg #[.int .i64 b2.slot, .int .i64 b2.miner, .int .i64 b2.var, .int .i64 b2.parent, u2]]) rfl rfl (fun _ _ => rfl) fun σ w' hx hg => ⟨by have h19 : σ.tmps.getD 19 undef = .agg #[.int .i64 b2.slot, .int .i64 b2.miner, .int .i64 b2.var, .int .i64 b2.parent, u2] := hg.1; simp only [List.map_toArray, List.map_cons, List.map_nil, Act.eval, h19], nameR (b := b2) (s2.ext TxR.stays hx) hp2.out hn2.out⟩) ?_
  refine LinL.step (s := (.val (.int .i64 x))) [(18, some 2)] rfl (by kernel_rfl) (op_copy 18 2 (.val (.int .i64 x)) rfl (.inr rfl) rfl) ?_
  refine LinL.step (s := (.val (.int .i64 y))) [(20, some 1)] rfl (by kernel_rfl) (op_copy 20 1 (.val (.int .i64 y)) rfl (.inr rfl) rfl) ?_
  intro wN hxN
  simp only [Fin', List.reverse_cons, List.reverse_nil, List.nil_append, List.cons_append, List.drop_zero, List.take_succ_cons, List.take_zero]
  simp only [Act.put, List.setIfInBounds_toArray, List.set_cons_zero, List.set_cons_succ]
  replace f1 := f1.ext hxN; replace f2 := f2.ext hxN; replace hX := hX.trans hxN
  clear s1 s2 hxd hxN
  have t0 : decide (b.parent < x) = true := decide_eq_true hlt.out
  by_cases k0 : b.slot = b2.slot
  rotate_left
  · have c0 : (b.slot == b2.slot) = false := beq_eq_false_iff_ne.2 k0
    have cq : (x == y) = false := beq_eq_false_iff_ne.2 fun h => k0 (hiff.out.1 h).1
    clear k0
    go_wp2
    refine wp_region_phx (by kernel_rfl) ?_; intro wd hxd; replace f1 := f1.ext hxd; replace f2 := f2.ext hxd; replace hX := hX.trans hxd
    refine Ph.rest 0 37 (by kernel_rfl) ?_
    refine LinL.step (s := (.val (.int .i64 x))) [(5, none)] rfl (by kernel_rfl) (op_out 5 (.int .i64 x) rfl (.inl rfl) rfl) ?_
    refine LinL.step (s := (.val (.int .i64 y))) [(6, none)] rfl (by kernel_rfl) (op_out 6 (.int .i64 y) rfl (.inl rfl) rfl) ?_
    refine LinL.step (s := (.val (.bool false))) [(21, some 1), (22, some 0)] rfl (by kernel_rfl) (op_runs rfl fun σ w' hx hg => ⟨(.bool false), by have h21 : σ.tmps.getD 21 undef = .int .i64 x := hg.1; have h22 : σ.tmps.getD 22 undef = .int .i64 y := hg.2.1; unfold Runs execOp; simp [Act.eval, h21, h22, go_sem, cq], rfl⟩) ?_
    refine LinL.step (s := (.val (.pointer (some ⟨g1, 0, none⟩)))) [(2, none)] rfl (by kernel_rfl) (op_runs rfl fun σ w' hx hg => ⟨_, runs_field (ρ := σ.eval) (w := w') Try.stBlk (.tmp 2) g1 0 rfl hg.1 (by omega), rfl⟩) ?_
    refine LinL.step (s := (.val (.int .i64 b.slot))) [(24, some 0)] rfl (by kernel_rfl) (op_runs rfl fun σ w' hx hg => ⟨_, runs_fload (ρ := σ.eval) (w := w') (.tmp 24) rfl hg.1 (agg_of (by kernel_rfl) _) (f1.ext hx) rfl, rfl⟩) ?_
    refine LinL.step (s := (.val (.pointer (some ⟨g2, 0, none⟩)))) [(3, none)] rfl (by kernel_rfl) (op_runs rfl fun σ w' hx hg => ⟨_, runs_field (ρ := σ.eval) (w := w') Try.stBlk (.tmp 3) g2 0 rfl hg.1 (by omega), rfl⟩) ?_
    refine LinL.step (s := (.val (.int .i64 b2.slot))) [(26, some 0)] rfl (by kernel_rfl) (op_runs rfl fun σ w' hx hg => ⟨_, runs_fload (ρ := σ.eval) (w := w') (.tmp 26) rfl hg.1 (agg_of (by kernel_rfl) _) (f2.ext hx) rfl, rfl⟩) ?_
    refine LinL.step (s := (.val (.bool false))) [(25, some 2), (27, some 0)] rfl (by kernel_rfl) (op_runs rfl fun σ w' hx hg => ⟨(.bool false), by have h25 : σ.tmps.getD 25 undef = .int .i64 b.slot := hg.1; have h27 : σ.tmps.getD 27 undef = .int .i64 b2.slot := hg.2.1; unfold Runs execOp; simp [Act.eval, h25, h27, go_sem, c0], rfl⟩) ?_
    refine LinL.step (s := (.val (.bool false))) [(28, some 0)] rfl (by kernel_rfl) (op_copy 28 0 (.val (.bool false)) rfl (.inl rfl) rfl) ?_
    refine LinL.step (s := .val undef) [(2, none), (29, some 0)] rfl (by kernel_rfl) (op_no (reads := [(2, none)]) 8 29 0 true rfl rfl rfl) ?_
    refine LinL.step (s := .val undef) [(30, some 0), (29, some 1)] rfl (by kernel_rfl) (op_no (reads := [(30, some 0)]) 8 29 1 true rfl rfl rfl) ?_
    refine LinL.step (s := .val undef) [(3, none), (29, some 2)] rfl (by kernel_rfl) (op_no (reads := [(3, none)]) 8 29 2 true rfl rfl rfl) ?_
    refine LinL.step (s := .val undef) [(32, some 0), (29, some 3)] rfl (by kernel_rfl) (op_no (reads := [(32, some 0)]) 8 29 3 true rfl rfl rfl) ?_
    refine LinL.step (s := .val undef) [(31, some 2), (33, some 0), (29, some 4)] rfl (by kernel_rfl) (op_no (reads := [(31, some 2), (33, some 0)]) 8 29 4 true rfl rfl rfl) ?_
    refine LinL.step (s := (.val (.bool false))) [(29, some 5), (34, some 0)] rfl (by kernel_rfl) (op_runs rfl fun σ w' hx hg => ⟨_, runs_pick_f (ρ := σ.eval) (w := w') (.tmp 29) (.tmp 34) (.const (.bool false)) rfl hg.1 rfl, rfl⟩) ?_
    refine LinL.step (s := (.val (.bool false))) [(35, some 0)] rfl (by kernel_rfl) (op_copy 35 0 (.val (.bool false)) rfl (.inl rfl) rfl) ?_
    refine LinL.step (s := .val undef) [(2, none), (36, some 0)] rfl (by kernel_rfl) (op_no (reads := [(2, none)]) 15 36 0 true rfl rfl rfl) ?_
    refine LinL.step (s := .val undef) [(37, some 0), (36, some 1)] rfl (by kernel_rfl) (op_no (reads := [(37, some 0)]) 15 36 1 true rfl rfl rfl) ?_
    refine LinL.step (s := .val undef) [(3, none), (36, some 2)] rfl (by kernel_rfl) (op_no (reads := [(3, none)]) 15 36 2 true rfl rfl rfl) ?_
    refine LinL.step (s := .val undef) [(39, some 0), (36, some 3)] rfl (by kernel_rfl) (op_no (reads := [(39, some 0)]) 15 36 3 true rfl rfl rfl) ?_
    refine LinL.step (s := .val undef) [(38, some 2), (40, some 0), (36, some 4)] rfl (by kernel_rfl) (op_no (reads := [(38, some 2), (40, some 0)]) 15 36 4 true rfl rfl rfl) ?_
    refine LinL.step (s := (.val (.bool false))) [(36, some 5), (41, some 0)] rfl (by kernel_rfl) (op_runs rfl fun σ w' hx hg => ⟨_, runs_pick_f (ρ := σ.eval) (w := w') (.tmp 36) (.tmp 41) (.const (.bool false)) rfl hg.1 rfl, rfl⟩) ?_
    refine LinL.step (s := (.val (.bool false))) [(23, some 19), (42, some 0)] rfl (by kernel_rfl) (op_runs rfl fun σ w' hx hg => ⟨(.bool false), by have h23 : σ.tmps.getD 23 undef = .bool false := hg.1; have h42 : σ.tmps.getD 42 undef = .bool false := hg.2.1; unfold Runs execOp; simp [Act.eval, h23, h42, go_sem], rfl⟩) ?_
    refine LinL.step (s := (.val (.bool false))) [(43, some 0)] rfl (by kernel_rfl) (op_copy 43 0 (.val (.bool false)) rfl (.inl rfl) rfl) ?_
    refine LinL.step (s := (.val (.int .i64 x))) [(5, none), (44, some 0)] rfl (by kernel_rfl) (op_yes (reads := [(5, none)]) 23 44 0 false rfl rfl rfl (op_out 5 (.int .i64 x) rfl (.inl rfl) rfl)) ?_
    refine LinL.step (s := (.val (.int .i64 b.slot))) [(45, some 0), (44, some 1)] rfl (by kernel_rfl) (op_yes (reads := [(45, some 0)]) 23 44 1 false rfl rfl rfl (op_calls 21 #[(.tmp 45)] #[3] (fun σ => #[.int .i64 x]) rfl rfl (fun _ _ => rfl) fun σ w' hx hg => ⟨by have h45 : σ.tmps.getD 45 undef = .int .i64 x := hg.1; simp only [List.map_toArray, List.map_cons, List.map_nil, Act.eval, h45], slotR hI.out hS.out⟩)) ?_
    refine LinL.step (s := (.val (.pointer (some ⟨g1, 0, none⟩)))) [(2, none), (44, some 2)] rfl (by kernel_rfl) (op_yes (reads := [(2, none)]) 23 44 2 false rfl rfl rfl (op_runs rfl fun σ w' hx hg => ⟨_, runs_field (ρ := σ.eval) (w := w') Try.stBlk (.tmp 2) g1 0 rfl hg.1 (by omega), rfl⟩)) ?_
    refine LinL.step (s := (.val (.int .i64 b.slot))) [(47, some 0), (44, some 3)] rfl (by kernel_rfl) (op_yes (reads := [(47, some 0)]) 23 44 3 false rfl rfl rfl (op_runs rfl fun σ w' hx hg => ⟨_, runs_fload (ρ := σ.eval) (w := w') (.tmp 47) rfl hg.1 (agg_of (by kernel_rfl) _) (f1.ext hx) rfl, rfl⟩)) ?_
    refine LinL.step (s := (.val (.bool false))) [(46, some 2), (48, some 0), (44, some 4)] rfl (by kernel_rfl) (op_yes (reads := [(46, some 2), (48, some 0)]) 23 44 4 false rfl rfl rfl (op_runs rfl fun σ w' hx hg => ⟨(.bool false), by have h46 : σ.tmps.getD 46 undef = .int .i64 b.slot := hg.1; have h48 : σ.tmps.getD 48 undef = .int .i64 b.slot := hg.2.1; unfold Runs execOp; simp [Act.eval, h46, h48, go_sem], rfl⟩)) ?_
    refine LinL.step (s := (.val (.bool false))) [(44, some 5), (49, some 0)] rfl (by kernel_rfl) (op_runs rfl fun σ w' hx hg => ⟨_, runs_pick_f (ρ := σ.eval) (w := w') (.tmp 44) (.const (.bool true)) (.tmp 49) rfl hg.1 hg.2.1, rfl⟩) ?_
    refine LinL.step (s := (.val (.bool false))) [(50, some 0)] rfl (by kernel_rfl) (op_copy 50 0 (.val (.bool false)) rfl (.inl rfl) rfl) ?_
    refine LinL.step (s := (.val (.int .i64 x))) [(5, none), (51, some 0)] rfl (by kernel_rfl) (op_yes (reads := [(5, none)]) 30 51 0 false rfl rfl rfl (op_out 5 (.int .i64 x) rfl (.inl rfl) rfl)) ?_
    refine LinL.step (s := (.val (.int .i64 b.miner))) [(52, some 0), (51, some 1)] rfl (by kernel_rfl) (op_yes (reads := [(52, some 0)]) 30 51 1 false rfl rfl rfl (op_calls 22 #[(.tmp 52)] #[3] (fun σ => #[.int .i64 x]) rfl rfl (fun _ _ => rfl) fun σ w' hx hg => ⟨by have h52 : σ.tmps.getD 52 undef = .int .i64 x := hg.1; simp only [List.map_toArray, List.map_cons, List.map_nil, Act.eval, h52], minerR hI.out hM.out⟩)) ?_
    refine LinL.step (s := (.val (.pointer (some ⟨g1, 1, none⟩)))) [(2, none), (51, some 2)] rfl (by kernel_rfl) (op_yes (reads := [(2, none)]) 30 51 2 false rfl rfl rfl (op_runs rfl fun σ w' hx hg => ⟨_, runs_field (ρ := σ.eval) (w := w') Try.stBlk (.tmp 2) g1 1 rfl hg.1 (by omega), rfl⟩)) ?_
    refine LinL.step (s := (.val (.int .i64 b.miner))) [(54, some 0), (51, some 3)] rfl (by kernel_rfl) (op_yes (reads := [(54, some 0)]) 30 51 3 false rfl rfl rfl (op_runs rfl fun σ w' hx hg => ⟨_, runs_fload (ρ := σ.eval) (w := w') (.tmp 54) rfl hg.1 (agg_of (by kernel_rfl) _) (f1.ext hx) rfl, rfl⟩)) ?_
    refine LinL.step (s := (.val (.bool false))) [(53, some 2), (55, some 0), (51, some 4)] rfl (by kernel_rfl) (op_yes (reads := [(53, some 2), (55, some 0)]) 30 51 4 false rfl rfl rfl (op_runs rfl fun σ w' hx hg => ⟨(.bool false), by have h53 : σ.tmps.getD 53 undef = .int .i64 b.miner := hg.1; have h55 : σ.tmps.getD 55 undef = .int .i64 b.miner := hg.2.1; unfold Runs execOp; simp [Act.eval, h53, h55, go_sem], rfl⟩)) ?_
    refine LinL.step (s := (.val (.bool false))) [(51, some 5), (56, some 0)] rfl (by kernel_rfl) (op_runs rfl fun σ w' hx hg => ⟨_, runs_pick_f (ρ := σ.eval) (w := w') (.tmp 51) (.const (.bool true)) (.tmp 56) rfl hg.1 hg.2.1, rfl⟩) ?_
    intro wN hxN
    simp only [Fin', List.reverse_cons, List.reverse_nil, List.nil_append, List.cons_append, List.drop_zero, List.take_succ_cons, List.take_zero]
    simp only [Act.put, List.setIfInBounds_toArray, List.set_cons_zero, List.set_cons_succ]
    replace f1 := f1.ext hxN; replace f2 := f2.ext hxN; replace hX := hX.trans hxN
    clear cq c0
    go_wp2_with ((first
      | ((with_reducible refine at_field ?_); (try refine w_yes _ _ _ rfl rfl rfl ?_); refine w_field Try.stBlk _ _ _ rfl rfl rfl (by omega) ?_)
      | ((with_reducible refine at_load ?_); (try refine w_yes _ _ _ rfl rfl rfl ?_); refine w_fload _ rfl rfl rfl f1 rfl (agg_of (by kernel_rfl)) ?_)
      | fail) <;> (try simp only [Act.put, List.setIfInBounds_toArray, List.set_cons_zero, List.set_cons_succ]))
    all_goals go_ret
    all_goals first
      | exact Keep.intro ⟨rfl, hX⟩
      | exact Keep.intro ⟨by show Ending.returned (.bool (decide (y < x))) = _; rw [decide_eq_true (show y < x from by have := hlt.out; omega)], hX⟩
  have c0 : (b.slot == b2.slot) = true := beq_iff_eq.2 k0
  by_cases k1 : b.miner = b2.miner
  rotate_left
  · have c1 : (b.miner == b2.miner) = false := beq_eq_false_iff_ne.2 k1
    have cq : (x == y) = false := beq_eq_false_iff_ne.2 fun h => k1 (hiff.out.1 h).2.1
    clear k0 k1
    go_wp2
    refine wp_region_phx (by kernel_rfl) ?_; intro wd hxd; replace f1 := f1.ext hxd; replace f2 := f2.ext hxd; replace hX := hX.trans hxd
    refine Ph.rest 0 37 (by kernel_rfl) ?_
    refine LinL.step (s := (.val (.int .i64 x))) [(5, none)] rfl (by kernel_rfl) (op_out 5 (.int .i64 x) rfl (.inl rfl) rfl) ?_
    refine LinL.step (s := (.val (.int .i64 y))) [(6, none)] rfl (by kernel_rfl) (op_out 6 (.int .i64 y) rfl (.inl rfl) rfl) ?_
    refine LinL.step (s := (.val (.bool false))) [(21, some 1), (22, some 0)] rfl (by kernel_rfl) (op_runs rfl fun σ w' hx hg => ⟨(.bool false), by have h21 : σ.tmps.getD 21 undef = .int .i64 x := hg.1; have h22 : σ.tmps.getD 22 undef = .int .i64 y := hg.2.1; unfold Runs execOp; simp [Act.eval, h21, h22, go_sem, cq], rfl⟩) ?_
    refine LinL.step (s := (.val (.pointer (some ⟨g1, 0, none⟩)))) [(2, none)] rfl (by kernel_rfl) (op_runs rfl fun σ w' hx hg => ⟨_, runs_field (ρ := σ.eval) (w := w') Try.stBlk (.tmp 2) g1 0 rfl hg.1 (by omega), rfl⟩) ?_
    refine LinL.step (s := (.val (.int .i64 b.slot))) [(24, some 0)] rfl (by kernel_rfl) (op_runs rfl fun σ w' hx hg => ⟨_, runs_fload (ρ := σ.eval) (w := w') (.tmp 24) rfl hg.1 (agg_of (by kernel_rfl) _) (f1.ext hx) rfl, rfl⟩) ?_
    refine LinL.step (s := (.val (.pointer (some ⟨g2, 0, none⟩)))) [(3, none)] rfl (by kernel_rfl) (op_runs rfl fun σ w' hx hg => ⟨_, runs_field (ρ := σ.eval) (w := w') Try.stBlk (.tmp 3) g2 0 rfl hg.1 (by omega), rfl⟩) ?_
    refine LinL.step (s := (.val (.int .i64 b2.slot))) [(26, some 0)] rfl (by kernel_rfl) (op_runs rfl fun σ w' hx hg => ⟨_, runs_fload (ρ := σ.eval) (w := w') (.tmp 26) rfl hg.1 (agg_of (by kernel_rfl) _) (f2.ext hx) rfl, rfl⟩) ?_
    refine LinL.step (s := (.val (.bool true))) [(25, some 2), (27, some 0)] rfl (by kernel_rfl) (op_runs rfl fun σ w' hx hg => ⟨(.bool true), by have h25 : σ.tmps.getD 25 undef = .int .i64 b.slot := hg.1; have h27 : σ.tmps.getD 27 undef = .int .i64 b2.slot := hg.2.1; unfold Runs execOp; simp [Act.eval, h25, h27, go_sem, c0], rfl⟩) ?_
    refine LinL.step (s := (.val (.bool true))) [(28, some 0)] rfl (by kernel_rfl) (op_copy 28 0 (.val (.bool true)) rfl (.inl rfl) rfl) ?_
    refine LinL.step (s := (.val (.pointer (some ⟨g1, 1, none⟩)))) [(2, none), (29, some 0)] rfl (by kernel_rfl) (op_yes (reads := [(2, none)]) 8 29 0 true rfl rfl rfl (op_runs rfl fun σ w' hx hg => ⟨_, runs_field (ρ := σ.eval) (w := w') Try.stBlk (.tmp 2) g1 1 rfl hg.1 (by omega), rfl⟩)) ?_
    refine LinL.step (s := (.val (.int .i64 b.miner))) [(30, some 0), (29, some 1)] rfl (by kernel_rfl) (op_yes (reads := [(30, some 0)]) 8 29 1 true rfl rfl rfl (op_runs rfl fun σ w' hx hg => ⟨_, runs_fload (ρ := σ.eval) (w := w') (.tmp 30) rfl hg.1 (agg_of (by kernel_rfl) _) (f1.ext hx) rfl, rfl⟩)) ?_
    refine LinL.step (s := (.val (.pointer (some ⟨g2, 1, none⟩)))) [(3, none), (29, some 2)] rfl (by kernel_rfl) (op_yes (reads := [(3, none)]) 8 29 2 true rfl rfl rfl (op_runs rfl fun σ w' hx hg => ⟨_, runs_field (ρ := σ.eval) (w := w') Try.stBlk (.tmp 3) g2 1 rfl hg.1 (by omega), rfl⟩)) ?_
    refine LinL.step (s := (.val (.int .i64 b2.miner))) [(32, some 0), (29, some 3)] rfl (by kernel_rfl) (op_yes (reads := [(32, some 0)]) 8 29 3 true rfl rfl rfl (op_runs rfl fun σ w' hx hg => ⟨_, runs_fload (ρ := σ.eval) (w := w') (.tmp 32) rfl hg.1 (agg_of (by kernel_rfl) _) (f2.ext hx) rfl, rfl⟩)) ?_
    refine LinL.step (s := (.val (.bool false))) [(31, some 2), (33, some 0), (29, some 4)] rfl (by kernel_rfl) (op_yes (reads := [(31, some 2), (33, some 0)]) 8 29 4 true rfl rfl rfl (op_runs rfl fun σ w' hx hg => ⟨(.bool false), by have h31 : σ.tmps.getD 31 undef = .int .i64 b.miner := hg.1; have h33 : σ.tmps.getD 33 undef = .int .i64 b2.miner := hg.2.1; unfold Runs execOp; simp [Act.eval, h31, h33, go_sem, c1], rfl⟩)) ?_
    refine LinL.step (s := (.val (.bool false))) [(29, some 5), (34, some 0)] rfl (by kernel_rfl) (op_runs rfl fun σ w' hx hg => ⟨_, runs_pick_t (ρ := σ.eval) (w := w') (.tmp 29) (.tmp 34) (.const (.bool false)) rfl hg.1 hg.2.1, rfl⟩) ?_
    refine LinL.step (s := (.val (.bool false))) [(35, some 0)] rfl (by kernel_rfl) (op_copy 35 0 (.val (.bool false)) rfl (.inl rfl) rfl) ?_
    refine LinL.step (s := .val undef) [(2, none), (36, some 0)] rfl (by kernel_rfl) (op_no (reads := [(2, none)]) 15 36 0 true rfl rfl rfl) ?_
    refine LinL.step (s := .val undef) [(37, some 0), (36, some 1)] rfl (by kernel_rfl) (op_no (reads := [(37, some 0)]) 15 36 1 true rfl rfl rfl) ?_
    refine LinL.step (s := .val undef) [(3, none), (36, some 2)] rfl (by kernel_rfl) (op_no (reads := [(3, none)]) 15 36 2 true rfl rfl rfl) ?_
    refine LinL.step (s := .val undef) [(39, some 0), (36, some 3)] rfl (by kernel_rfl) (op_no (reads := [(39, some 0)]) 15 36 3 true rfl rfl rfl) ?_
    refine LinL.step (s := .val undef) [(38, some 2), (40, some 0), (36, some 4)] rfl (by kernel_rfl) (op_no (reads := [(38, some 2), (40, some 0)]) 15 36 4 true rfl rfl rfl) ?_
    refine LinL.step (s := (.val (.bool false))) [(36, some 5), (41, some 0)] rfl (by kernel_rfl) (op_runs rfl fun σ w' hx hg => ⟨_, runs_pick_f (ρ := σ.eval) (w := w') (.tmp 36) (.tmp 41) (.const (.bool false)) rfl hg.1 rfl, rfl⟩) ?_
    refine LinL.step (s := (.val (.bool false))) [(23, some 19), (42, some 0)] rfl (by kernel_rfl) (op_runs rfl fun σ w' hx hg => ⟨(.bool false), by have h23 : σ.tmps.getD 23 undef = .bool false := hg.1; have h42 : σ.tmps.getD 42 undef = .bool false := hg.2.1; unfold Runs execOp; simp [Act.eval, h23, h42, go_sem], rfl⟩) ?_
    refine LinL.step (s := (.val (.bool false))) [(43, some 0)] rfl (by kernel_rfl) (op_copy 43 0 (.val (.bool false)) rfl (.inl rfl) rfl) ?_
    refine LinL.step (s := (.val (.int .i64 x))) [(5, none), (44, some 0)] rfl (by kernel_rfl) (op_yes (reads := [(5, none)]) 23 44 0 false rfl rfl rfl (op_out 5 (.int .i64 x) rfl (.inl rfl) rfl)) ?_
    refine LinL.step (s := (.val (.int .i64 b.slot))) [(45, some 0), (44, some 1)] rfl (by kernel_rfl) (op_yes (reads := [(45, some 0)]) 23 44 1 false rfl rfl rfl (op_calls 21 #[(.tmp 45)] #[3] (fun σ => #[.int .i64 x]) rfl rfl (fun _ _ => rfl) fun σ w' hx hg => ⟨by have h45 : σ.tmps.getD 45 undef = .int .i64 x := hg.1; simp only [List.map_toArray, List.map_cons, List.map_nil, Act.eval, h45], slotR hI.out hS.out⟩)) ?_
    refine LinL.step (s := (.val (.pointer (some ⟨g1, 0, none⟩)))) [(2, none), (44, some 2)] rfl (by kernel_rfl) (op_yes (reads := [(2, none)]) 23 44 2 false rfl rfl rfl (op_runs rfl fun σ w' hx hg => ⟨_, runs_field (ρ := σ.eval) (w := w') Try.stBlk (.tmp 2) g1 0 rfl hg.1 (by omega), rfl⟩)) ?_
    refine LinL.step (s := (.val (.int .i64 b.slot))) [(47, some 0), (44, some 3)] rfl (by kernel_rfl) (op_yes (reads := [(47, some 0)]) 23 44 3 false rfl rfl rfl (op_runs rfl fun σ w' hx hg => ⟨_, runs_fload (ρ := σ.eval) (w := w') (.tmp 47) rfl hg.1 (agg_of (by kernel_rfl) _) (f1.ext hx) rfl, rfl⟩)) ?_
    refine LinL.step (s := (.val (.bool false))) [(46, some 2), (48, some 0), (44, some 4)] rfl (by kernel_rfl) (op_yes (reads := [(46, some 2), (48, some 0)]) 23 44 4 false rfl rfl rfl (op_runs rfl fun σ w' hx hg => ⟨(.bool false), by have h46 : σ.tmps.getD 46 undef = .int .i64 b.slot := hg.1; have h48 : σ.tmps.getD 48 undef = .int .i64 b.slot := hg.2.1; unfold Runs execOp; simp [Act.eval, h46, h48, go_sem], rfl⟩)) ?_
    refine LinL.step (s := (.val (.bool false))) [(44, some 5), (49, some 0)] rfl (by kernel_rfl) (op_runs rfl fun σ w' hx hg => ⟨_, runs_pick_f (ρ := σ.eval) (w := w') (.tmp 44) (.const (.bool true)) (.tmp 49) rfl hg.1 hg.2.1, rfl⟩) ?_
    refine LinL.step (s := (.val (.bool false))) [(50, some 0)] rfl (by kernel_rfl) (op_copy 50 0 (.val (.bool false)) rfl (.inl rfl) rfl) ?_
    refine LinL.step (s := (.val (.int .i64 x))) [(5, none), (51, some 0)] rfl (by kernel_rfl) (op_yes (reads := [(5, none)]) 30 51 0 false rfl rfl rfl (op_out 5 (.int .i64 x) rfl (.inl rfl) rfl)) ?_
    refine LinL.step (s := (.val (.int .i64 b.miner))) [(52, some 0), (51, some 1)] rfl (by kernel_rfl) (op_yes (reads := [(52, some 0)]) 30 51 1 false rfl rfl rfl (op_calls 22 #[(.tmp 52)] #[3] (fun σ => #[.int .i64 x]) rfl rfl (fun _ _ => rfl) fun σ w' hx hg => ⟨by have h52 : σ.tmps.getD 52 undef = .int .i64 x := hg.1; simp only [List.map_toArray, List.map_cons, List.map_nil, Act.eval, h52], minerR hI.out hM.out⟩)) ?_
    refine LinL.step (s := (.val (.pointer (some ⟨g1, 1, none⟩)))) [(2, none), (51, some 2)] rfl (by kernel_rfl) (op_yes (reads := [(2, none)]) 30 51 2 false rfl rfl rfl (op_runs rfl fun σ w' hx hg => ⟨_, runs_field (ρ := σ.eval) (w := w') Try.stBlk (.tmp 2) g1 1 rfl hg.1 (by omega), rfl⟩)) ?_
    refine LinL.step (s := (.val (.int .i64 b.miner))) [(54, some 0), (51, some 3)] rfl (by kernel_rfl) (op_yes (reads := [(54, some 0)]) 30 51 3 false rfl rfl rfl (op_runs rfl fun σ w' hx hg => ⟨_, runs_fload (ρ := σ.eval) (w := w') (.tmp 54) rfl hg.1 (agg_of (by kernel_rfl) _) (f1.ext hx) rfl, rfl⟩)) ?_
    refine LinL.step (s := (.val (.bool false))) [(53, some 2), (55, some 0), (51, some 4)] rfl (by kernel_rfl) (op_yes (reads := [(53, some 2), (55, some 0)]) 30 51 4 false rfl rfl rfl (op_runs rfl fun σ w' hx hg => ⟨(.bool false), by have h53 : σ.tmps.getD 53 undef = .int .i64 b.miner := hg.1; have h55 : σ.tmps.getD 55 undef = .int .i64 b.miner := hg.2.1; unfold Runs execOp; simp [Act.eval, h53, h55, go_sem], rfl⟩)) ?_
    refine LinL.step (s := (.val (.bool false))) [(51, some 5), (56, some 0)] rfl (by kernel_rfl) (op_runs rfl fun σ w' hx hg => ⟨_, runs_pick_f (ρ := σ.eval) (w := w') (.tmp 51) (.const (.bool true)) (.tmp 56) rfl hg.1 hg.2.1, rfl⟩) ?_
    intro wN hxN
    simp only [Fin', List.reverse_cons, List.reverse_nil, List.nil_append, List.cons_append, List.drop_zero, List.take_succ_cons, List.take_zero]
    simp only [Act.put, List.setIfInBounds_toArray, List.set_cons_zero, List.set_cons_succ]
    replace f1 := f1.ext hxN; replace f2 := f2.ext hxN; replace hX := hX.trans hxN
    clear cq c0 c1
    go_wp2_with ((first
      | ((with_reducible refine at_field ?_); (try refine w_yes _ _ _ rfl rfl rfl ?_); refine w_field Try.stBlk _ _ _ rfl rfl rfl (by omega) ?_)
      | ((with_reducible refine at_load ?_); (try refine w_yes _ _ _ rfl rfl rfl ?_); refine w_fload _ rfl rfl rfl f1 rfl (agg_of (by kernel_rfl)) ?_)
      | fail) <;> (try simp only [Act.put, List.setIfInBounds_toArray, List.set_cons_zero, List.set_cons_succ]))
    all_goals go_ret
    all_goals first
      | exact Keep.intro ⟨rfl, hX⟩
      | exact Keep.intro ⟨by show Ending.returned (.bool (decide (y < x))) = _; rw [decide_eq_true (show y < x from by have := hlt.out; omega)], hX⟩
  have c1 : (b.miner == b2.miner) = true := beq_iff_eq.2 k1
  by_cases k2 : b.var = b2.var
  rotate_left
  · have c2 : (b.var == b2.var) = false := beq_eq_false_iff_ne.2 k2
    have cq : (x == y) = false := beq_eq_false_iff_ne.2 fun h => k2 (hiff.out.1 h).2.2
    clear k0 k1 k2
    go_wp2
    refine wp_region_phx (by kernel_rfl) ?_; intro wd hxd; replace f1 := f1.ext hxd; replace f2 := f2.ext hxd; replace hX := hX.trans hxd
    refine Ph.rest 0 37 (by kernel_rfl) ?_
    refine LinL.step (s := (.val (.int .i64 x))) [(5, none)] rfl (by kernel_rfl) (op_out 5 (.int .i64 x) rfl (.inl rfl) rfl) ?_
    refine LinL.step (s := (.val (.int .i64 y))) [(6, none)] rfl (by kernel_rfl) (op_out 6 (.int .i64 y) rfl (.inl rfl) rfl) ?_
    refine LinL.step (s := (.val (.bool false))) [(21, some 1), (22, some 0)] rfl (by kernel_rfl) (op_runs rfl fun σ w' hx hg => ⟨(.bool false), by have h21 : σ.tmps.getD 21 undef = .int .i64 x := hg.1; have h22 : σ.tmps.getD 22 undef = .int .i64 y := hg.2.1; unfold Runs execOp; simp [Act.eval, h21, h22, go_sem, cq], rfl⟩) ?_
    refine LinL.step (s := (.val (.pointer (some ⟨g1, 0, none⟩)))) [(2, none)] rfl (by kernel_rfl) (op_runs rfl fun σ w' hx hg => ⟨_, runs_field (ρ := σ.eval) (w := w') Try.stBlk (.tmp 2) g1 0 rfl hg.1 (by omega), rfl⟩) ?_
    refine LinL.step (s := (.val (.int .i64 b.slot))) [(24, some 0)] rfl (by kernel_rfl) (op_runs rfl fun σ w' hx hg => ⟨_, runs_fload (ρ := σ.eval) (w := w') (.tmp 24) rfl hg.1 (agg_of (by kernel_rfl) _) (f1.ext hx) rfl, rfl⟩) ?_
    refine LinL.step (s := (.val (.pointer (some ⟨g2, 0, none⟩)))) [(3, none)] rfl (by kernel_rfl) (op_runs rfl fun σ w' hx hg => ⟨_, runs_field (ρ := σ.eval) (w := w') Try.stBlk (.tmp 3) g2 0 rfl hg.1 (by omega), rfl⟩) ?_
    refine LinL.step (s := (.val (.int .i64 b2.slot))) [(26, some 0)] rfl (by kernel_rfl) (op_runs rfl fun σ w' hx hg => ⟨_, runs_fload (ρ := σ.eval) (w := w') (.tmp 26) rfl hg.1 (agg_of (by kernel_rfl) _) (f2.ext hx) rfl, rfl⟩) ?_
    refine LinL.step (s := (.val (.bool true))) [(25, some 2), (27, some 0)] rfl (by kernel_rfl) (op_runs rfl fun σ w' hx hg => ⟨(.bool true), by have h25 : σ.tmps.getD 25 undef = .int .i64 b.slot := hg.1; have h27 : σ.tmps.getD 27 undef = .int .i64 b2.slot := hg.2.1; unfold Runs execOp; simp [Act.eval, h25, h27, go_sem, c0], rfl⟩) ?_
    refine LinL.step (s := (.val (.bool true))) [(28, some 0)] rfl (by kernel_rfl) (op_copy 28 0 (.val (.bool true)) rfl (.inl rfl) rfl) ?_
    refine LinL.step (s := (.val (.pointer (some ⟨g1, 1, none⟩)))) [(2, none), (29, some 0)] rfl (by kernel_rfl) (op_yes (reads := [(2, none)]) 8 29 0 true rfl rfl rfl (op_runs rfl fun σ w' hx hg => ⟨_, runs_field (ρ := σ.eval) (w := w') Try.stBlk (.tmp 2) g1 1 rfl hg.1 (by omega), rfl⟩)) ?_
    refine LinL.step (s := (.val (.int .i64 b.miner))) [(30, some 0), (29, some 1)] rfl (by kernel_rfl) (op_yes (reads := [(30, some 0)]) 8 29 1 true rfl rfl rfl (op_runs rfl fun σ w' hx hg => ⟨_, runs_fload (ρ := σ.eval) (w := w') (.tmp 30) rfl hg.1 (agg_of (by kernel_rfl) _) (f1.ext hx) rfl, rfl⟩)) ?_
    refine LinL.step (s := (.val (.pointer (some ⟨g2, 1, none⟩)))) [(3, none), (29, some 2)] rfl (by kernel_rfl) (op_yes (reads := [(3, none)]) 8 29 2 true rfl rfl rfl (op_runs rfl fun σ w' hx hg => ⟨_, runs_field (ρ := σ.eval) (w := w') Try.stBlk (.tmp 3) g2 1 rfl hg.1 (by omega), rfl⟩)) ?_
    refine LinL.step (s := (.val (.int .i64 b2.miner))) [(32, some 0), (29, some 3)] rfl (by kernel_rfl) (op_yes (reads := [(32, some 0)]) 8 29 3 true rfl rfl rfl (op_runs rfl fun σ w' hx hg => ⟨_, runs_fload (ρ := σ.eval) (w := w') (.tmp 32) rfl hg.1 (agg_of (by kernel_rfl) _) (f2.ext hx) rfl, rfl⟩)) ?_
    refine LinL.step (s := (.val (.bool true))) [(31, some 2), (33, some 0), (29, some 4)] rfl (by kernel_rfl) (op_yes (reads := [(31, some 2), (33, some 0)]) 8 29 4 true rfl rfl rfl (op_runs rfl fun σ w' hx hg => ⟨(.bool true), by have h31 : σ.tmps.getD 31 undef = .int .i64 b.miner := hg.1; have h33 : σ.tmps.getD 33 undef = .int .i64 b2.miner := hg.2.1; unfold Runs execOp; simp [Act.eval, h31, h33, go_sem, c1], rfl⟩)) ?_
    refine LinL.step (s := (.val (.bool true))) [(29, some 5), (34, some 0)] rfl (by kernel_rfl) (op_runs rfl fun σ w' hx hg => ⟨_, runs_pick_t (ρ := σ.eval) (w := w') (.tmp 29) (.tmp 34) (.const (.bool false)) rfl hg.1 hg.2.1, rfl⟩) ?_
    refine LinL.step (s := (.val (.bool true))) [(35, some 0)] rfl (by kernel_rfl) (op_copy 35 0 (.val (.bool true)) rfl (.inl rfl) rfl) ?_
    refine LinL.step (s := (.val (.pointer (some ⟨g1, 2, none⟩)))) [(2, none), (36, some 0)] rfl (by kernel_rfl) (op_yes (reads := [(2, none)]) 15 36 0 true rfl rfl rfl (op_runs rfl fun σ w' hx hg => ⟨_, runs_field (ρ := σ.eval) (w := w') Try.stBlk (.tmp 2) g1 2 rfl hg.1 (by omega), rfl⟩)) ?_
    refine LinL.step (s := (.val (.int .i64 b.var))) [(37, some 0), (36, some 1)] rfl (by kernel_rfl) (op_yes (reads := [(37, some 0)]) 15 36 1 true rfl rfl rfl (op_runs rfl fun σ w' hx hg => ⟨_, runs_fload (ρ := σ.eval) (w := w') (.tmp 37) rfl hg.1 (agg_of (by kernel_rfl) _) (f1.ext hx) rfl, rfl⟩)) ?_
    refine LinL.step (s := (.val (.pointer (some ⟨g2, 2, none⟩)))) [(3, none), (36, some 2)] rfl (by kernel_rfl) (op_yes (reads := [(3, none)]) 15 36 2 true rfl rfl rfl (op_runs rfl fun σ w' hx hg => ⟨_, runs_field (ρ := σ.eval) (w := w') Try.stBlk (.tmp 3) g2 2 rfl hg.1 (by omega), rfl⟩)) ?_
    refine LinL.step (s := (.val (.int .i64 b2.var))) [(39, some 0), (36, some 3)] rfl (by kernel_rfl) (op_yes (reads := [(39, some 0)]) 15 36 3 true rfl rfl rfl (op_runs rfl fun σ w' hx hg => ⟨_, runs_fload (ρ := σ.eval) (w := w') (.tmp 39) rfl hg.1 (agg_of (by kernel_rfl) _) (f2.ext hx) rfl, rfl⟩)) ?_
    refine LinL.step (s := (.val (.bool false))) [(38, some 2), (40, some 0), (36, some 4)] rfl (by kernel_rfl) (op_yes (reads := [(38, some 2), (40, some 0)]) 15 36 4 true rfl rfl rfl (op_runs rfl fun σ w' hx hg => ⟨(.bool false), by have h38 : σ.tmps.getD 38 undef = .int .i64 b.var := hg.1; have h40 : σ.tmps.getD 40 undef = .int .i64 b2.var := hg.2.1; unfold Runs execOp; simp [Act.eval, h38, h40, go_sem, c2], rfl⟩)) ?_
    refine LinL.step (s := (.val (.bool false))) [(36, some 5), (41, some 0)] rfl (by kernel_rfl) (op_runs rfl fun σ w' hx hg => ⟨_, runs_pick_t (ρ := σ.eval) (w := w') (.tmp 36) (.tmp 41) (.const (.bool false)) rfl hg.1 hg.2.1, rfl⟩) ?_
    refine LinL.step (s := (.val (.bool false))) [(23, some 19), (42, some 0)] rfl (by kernel_rfl) (op_runs rfl fun σ w' hx hg => ⟨(.bool false), by have h23 : σ.tmps.getD 23 undef = .bool false := hg.1; have h42 : σ.tmps.getD 42 undef = .bool false := hg.2.1; unfold Runs execOp; simp [Act.eval, h23, h42, go_sem], rfl⟩) ?_
    refine LinL.step (s := (.val (.bool false))) [(43, some 0)] rfl (by kernel_rfl) (op_copy 43 0 (.val (.bool false)) rfl (.inl rfl) rfl) ?_
    refine LinL.step (s := (.val (.int .i64 x))) [(5, none), (44, some 0)] rfl (by kernel_rfl) (op_yes (reads := [(5, none)]) 23 44 0 false rfl rfl rfl (op_out 5 (.int .i64 x) rfl (.inl rfl) rfl)) ?_
    refine LinL.step (s := (.val (.int .i64 b.slot))) [(45, some 0), (44, some 1)] rfl (by kernel_rfl) (op_yes (reads := [(45, some 0)]) 23 44 1 false rfl rfl rfl (op_calls 21 #[(.tmp 45)] #[3] (fun σ => #[.int .i64 x]) rfl rfl (fun _ _ => rfl) fun σ w' hx hg => ⟨by have h45 : σ.tmps.getD 45 undef = .int .i64 x := hg.1; simp only [List.map_toArray, List.map_cons, List.map_nil, Act.eval, h45], slotR hI.out hS.out⟩)) ?_
    refine LinL.step (s := (.val (.pointer (some ⟨g1, 0, none⟩)))) [(2, none), (44, some 2)] rfl (by kernel_rfl) (op_yes (reads := [(2, none)]) 23 44 2 false rfl rfl rfl (op_runs rfl fun σ w' hx hg => ⟨_, runs_field (ρ := σ.eval) (w := w') Try.stBlk (.tmp 2) g1 0 rfl hg.1 (by omega), rfl⟩)) ?_
    refine LinL.step (s := (.val (.int .i64 b.slot))) [(47, some 0), (44, some 3)] rfl (by kernel_rfl) (op_yes (reads := [(47, some 0)]) 23 44 3 false rfl rfl rfl (op_runs rfl fun σ w' hx hg => ⟨_, runs_fload (ρ := σ.eval) (w := w') (.tmp 47) rfl hg.1 (agg_of (by kernel_rfl) _) (f1.ext hx) rfl, rfl⟩)) ?_
    refine LinL.step (s := (.val (.bool false))) [(46, some 2), (48, some 0), (44, some 4)] rfl (by kernel_rfl) (op_yes (reads := [(46, some 2), (48, some 0)]) 23 44 4 false rfl rfl rfl (op_runs rfl fun σ w' hx hg => ⟨(.bool false), by have h46 : σ.tmps.getD 46 undef = .int .i64 b.slot := hg.1; have h48 : σ.tmps.getD 48 undef = .int .i64 b.slot := hg.2.1; unfold Runs execOp; simp [Act.eval, h46, h48, go_sem], rfl⟩)) ?_
    refine LinL.step (s := (.val (.bool false))) [(44, some 5), (49, some 0)] rfl (by kernel_rfl) (op_runs rfl fun σ w' hx hg => ⟨_, runs_pick_f (ρ := σ.eval) (w := w') (.tmp 44) (.const (.bool true)) (.tmp 49) rfl hg.1 hg.2.1, rfl⟩) ?_
    refine LinL.step (s := (.val (.bool false))) [(50, some 0)] rfl (by kernel_rfl) (op_copy 50 0 (.val (.bool false)) rfl (.inl rfl) rfl) ?_
    refine LinL.step (s := (.val (.int .i64 x))) [(5, none), (51, some 0)] rfl (by kernel_rfl) (op_yes (reads := [(5, none)]) 30 51 0 false rfl rfl rfl (op_out 5 (.int .i64 x) rfl (.inl rfl) rfl)) ?_
    refine LinL.step (s := (.val (.int .i64 b.miner))) [(52, some 0), (51, some 1)] rfl (by kernel_rfl) (op_yes (reads := [(52, some 0)]) 30 51 1 false rfl rfl rfl (op_calls 22 #[(.tmp 52)] #[3] (fun σ => #[.int .i64 x]) rfl rfl (fun _ _ => rfl) fun σ w' hx hg => ⟨by have h52 : σ.tmps.getD 52 undef = .int .i64 x := hg.1; simp only [List.map_toArray, List.map_cons, List.map_nil, Act.eval, h52], minerR hI.out hM.out⟩)) ?_
    refine LinL.step (s := (.val (.pointer (some ⟨g1, 1, none⟩)))) [(2, none), (51, some 2)] rfl (by kernel_rfl) (op_yes (reads := [(2, none)]) 30 51 2 false rfl rfl rfl (op_runs rfl fun σ w' hx hg => ⟨_, runs_field (ρ := σ.eval) (w := w') Try.stBlk (.tmp 2) g1 1 rfl hg.1 (by omega), rfl⟩)) ?_
    refine LinL.step (s := (.val (.int .i64 b.miner))) [(54, some 0), (51, some 3)] rfl (by kernel_rfl) (op_yes (reads := [(54, some 0)]) 30 51 3 false rfl rfl rfl (op_runs rfl fun σ w' hx hg => ⟨_, runs_fload (ρ := σ.eval) (w := w') (.tmp 54) rfl hg.1 (agg_of (by kernel_rfl) _) (f1.ext hx) rfl, rfl⟩)) ?_
    refine LinL.step (s := (.val (.bool false))) [(53, some 2), (55, some 0), (51, some 4)] rfl (by kernel_rfl) (op_yes (reads := [(53, some 2), (55, some 0)]) 30 51 4 false rfl rfl rfl (op_runs rfl fun σ w' hx hg => ⟨(.bool false), by have h53 : σ.tmps.getD 53 undef = .int .i64 b.miner := hg.1; have h55 : σ.tmps.getD 55 undef = .int .i64 b.miner := hg.2.1; unfold Runs execOp; simp [Act.eval, h53, h55, go_sem], rfl⟩)) ?_
    refine LinL.step (s := (.val (.bool false))) [(51, some 5), (56, some 0)] rfl (by kernel_rfl) (op_runs rfl fun σ w' hx hg => ⟨_, runs_pick_f (ρ := σ.eval) (w := w') (.tmp 51) (.const (.bool true)) (.tmp 56) rfl hg.1 hg.2.1, rfl⟩) ?_
    intro wN hxN
    simp only [Fin', List.reverse_cons, List.reverse_nil, List.nil_append, List.cons_append, List.drop_zero, List.take_succ_cons, List.take_zero]
    simp only [Act.put, List.setIfInBounds_toArray, List.set_cons_zero, List.set_cons_succ]
    replace f1 := f1.ext hxN; replace f2 := f2.ext hxN; replace hX := hX.trans hxN
    clear cq c0 c1 c2
    go_wp2_with ((first
      | ((with_reducible refine at_field ?_); (try refine w_yes _ _ _ rfl rfl rfl ?_); refine w_field Try.stBlk _ _ _ rfl rfl rfl (by omega) ?_)
      | ((with_reducible refine at_load ?_); (try refine w_yes _ _ _ rfl rfl rfl ?_); refine w_fload _ rfl rfl rfl f1 rfl (agg_of (by kernel_rfl)) ?_)
      | fail) <;> (try simp only [Act.put, List.setIfInBounds_toArray, List.set_cons_zero, List.set_cons_succ]))
    all_goals go_ret
    all_goals first
      | exact Keep.intro ⟨rfl, hX⟩
      | exact Keep.intro ⟨by show Ending.returned (.bool (decide (y < x))) = _; rw [decide_eq_true (show y < x from by have := hlt.out; omega)], hX⟩
  have c2 : (b.var == b2.var) = true := beq_iff_eq.2 k2
  have cq : (x == y) = true := beq_iff_eq.2 (hiff.out.2 ⟨k0, k1, k2⟩)
  clear k0 k1 k2
  go_wp2
  refine wp_region_phx (by kernel_rfl) ?_; intro wd hxd; replace f1 := f1.ext hxd; replace f2 := f2.ext hxd; replace hX := hX.trans hxd
  refine Ph.rest 0 37 (by kernel_rfl) ?_
  refine LinL.step (s := (.val (.int .i64 x))) [(5, none)] rfl (by kernel_rfl) (op_out 5 (.int .i64 x) rfl (.inl rfl) rfl) ?_
  refine LinL.step (s := (.val (.int .i64 y))) [(6, none)] rfl (by kernel_rfl) (op_out 6 (.int .i64 y) rfl (.inl rfl) rfl) ?_
  refine LinL.step (s := (.val (.bool true))) [(21, some 1), (22, some 0)] rfl (by kernel_rfl) (op_runs rfl fun σ w' hx hg => ⟨(.bool true), by have h21 : σ.tmps.getD 21 undef = .int .i64 x := hg.1; have h22 : σ.tmps.getD 22 undef = .int .i64 y := hg.2.1; unfold Runs execOp; simp [Act.eval, h21, h22, go_sem, cq], rfl⟩) ?_
  refine LinL.step (s := (.val (.pointer (some ⟨g1, 0, none⟩)))) [(2, none)] rfl (by kernel_rfl) (op_runs rfl fun σ w' hx hg => ⟨_, runs_field (ρ := σ.eval) (w := w') Try.stBlk (.tmp 2) g1 0 rfl hg.1 (by omega), rfl⟩) ?_
  refine LinL.step (s := (.val (.int .i64 b.slot))) [(24, some 0)] rfl (by kernel_rfl) (op_runs rfl fun σ w' hx hg => ⟨_, runs_fload (ρ := σ.eval) (w := w') (.tmp 24) rfl hg.1 (agg_of (by kernel_rfl) _) (f1.ext hx) rfl, rfl⟩) ?_
  refine LinL.step (s := (.val (.pointer (some ⟨g2, 0, none⟩)))) [(3, none)] rfl (by kernel_rfl) (op_runs rfl fun σ w' hx hg => ⟨_, runs_field (ρ := σ.eval) (w := w') Try.stBlk (.tmp 3) g2 0 rfl hg.1 (by omega), rfl⟩) ?_
  refine LinL.step (s := (.val (.int .i64 b2.slot))) [(26, some 0)] rfl (by kernel_rfl) (op_runs rfl fun σ w' hx hg => ⟨_, runs_fload (ρ := σ.eval) (w := w') (.tmp 26) rfl hg.1 (agg_of (by kernel_rfl) _) (f2.ext hx) rfl, rfl⟩) ?_
  refine LinL.step (s := (.val (.bool true))) [(25, some 2), (27, some 0)] rfl (by kernel_rfl) (op_runs rfl fun σ w' hx hg => ⟨(.bool true), by have h25 : σ.tmps.getD 25 undef = .int .i64 b.slot := hg.1; have h27 : σ.tmps.getD 27 undef = .int .i64 b2.slot := hg.2.1; unfold Runs execOp; simp [Act.eval, h25, h27, go_sem, c0], rfl⟩) ?_
  refine LinL.step (s := (.val (.bool true))) [(28, some 0)] rfl (by kernel_rfl) (op_copy 28 0 (.val (.bool true)) rfl (.inl rfl) rfl) ?_
  refine LinL.step (s := (.val (.pointer (some ⟨g1, 1, none⟩)))) [(2, none), (29, some 0)] rfl (by kernel_rfl) (op_yes (reads := [(2, none)]) 8 29 0 true rfl rfl rfl (op_runs rfl fun σ w' hx hg => ⟨_, runs_field (ρ := σ.eval) (w := w') Try.stBlk (.tmp 2) g1 1 rfl hg.1 (by omega), rfl⟩)) ?_
  refine LinL.step (s := (.val (.int .i64 b.miner))) [(30, some 0), (29, some 1)] rfl (by kernel_rfl) (op_yes (reads := [(30, some 0)]) 8 29 1 true rfl rfl rfl (op_runs rfl fun σ w' hx hg => ⟨_, runs_fload (ρ := σ.eval) (w := w') (.tmp 30) rfl hg.1 (agg_of (by kernel_rfl) _) (f1.ext hx) rfl, rfl⟩)) ?_
  refine LinL.step (s := (.val (.pointer (some ⟨g2, 1, none⟩)))) [(3, none), (29, some 2)] rfl (by kernel_rfl) (op_yes (reads := [(3, none)]) 8 29 2 true rfl rfl rfl (op_runs rfl fun σ w' hx hg => ⟨_, runs_field (ρ := σ.eval) (w := w') Try.stBlk (.tmp 3) g2 1 rfl hg.1 (by omega), rfl⟩)) ?_
  refine LinL.step (s := (.val (.int .i64 b2.miner))) [(32, some 0), (29, some 3)] rfl (by kernel_rfl) (op_yes (reads := [(32, some 0)]) 8 29 3 true rfl rfl rfl (op_runs rfl fun σ w' hx hg => ⟨_, runs_fload (ρ := σ.eval) (w := w') (.tmp 32) rfl hg.1 (agg_of (by kernel_rfl) _) (f2.ext hx) rfl, rfl⟩)) ?_
  refine LinL.step (s := (.val (.bool true))) [(31, some 2), (33, some 0), (29, some 4)] rfl (by kernel_rfl) (op_yes (reads := [(31, some 2), (33, some 0)]) 8 29 4 true rfl rfl rfl (op_runs rfl fun σ w' hx hg => ⟨(.bool true), by have h31 : σ.tmps.getD 31 undef = .int .i64 b.miner := hg.1; have h33 : σ.tmps.getD 33 undef = .int .i64 b2.miner := hg.2.1; unfold Runs execOp; simp [Act.eval, h31, h33, go_sem, c1], rfl⟩)) ?_
  refine LinL.step (s := (.val (.bool true))) [(29, some 5), (34, some 0)] rfl (by kernel_rfl) (op_runs rfl fun σ w' hx hg => ⟨_, runs_pick_t (ρ := σ.eval) (w := w') (.tmp 29) (.tmp 34) (.const (.bool false)) rfl hg.1 hg.2.1, rfl⟩) ?_
  refine LinL.step (s := (.val (.bool true))) [(35, some 0)] rfl (by kernel_rfl) (op_copy 35 0 (.val (.bool true)) rfl (.inl rfl) rfl) ?_
  refine LinL.step (s := (.val (.pointer (some ⟨g1, 2, none⟩)))) [(2, none), (36, some 0)] rfl (by kernel_rfl) (op_yes (reads := [(2, none)]) 15 36 0 true rfl rfl rfl (op_runs rfl fun σ w' hx hg => ⟨_, runs_field (ρ := σ.eval) (w := w') Try.stBlk (.tmp 2) g1 2 rfl hg.1 (by omega), rfl⟩)) ?_
  refine LinL.step (s := (.val (.int .i64 b.var))) [(37, some 0), (36, some 1)] rfl (by kernel_rfl) (op_yes (reads := [(37, some 0)]) 15 36 1 true rfl rfl rfl (op_runs rfl fun σ w' hx hg => ⟨_, runs_fload (ρ := σ.eval) (w := w') (.tmp 37) rfl hg.1 (agg_of (by kernel_rfl) _) (f1.ext hx) rfl, rfl⟩)) ?_
  refine LinL.step (s := (.val (.pointer (some ⟨g2, 2, none⟩)))) [(3, none), (36, some 2)] rfl (by kernel_rfl) (op_yes (reads := [(3, none)]) 15 36 2 true rfl rfl rfl (op_runs rfl fun σ w' hx hg => ⟨_, runs_field (ρ := σ.eval) (w := w') Try.stBlk (.tmp 3) g2 2 rfl hg.1 (by omega), rfl⟩)) ?_
  refine LinL.step (s := (.val (.int .i64 b2.var))) [(39, some 0), (36, some 3)] rfl (by kernel_rfl) (op_yes (reads := [(39, some 0)]) 15 36 3 true rfl rfl rfl (op_runs rfl fun σ w' hx hg => ⟨_, runs_fload (ρ := σ.eval) (w := w') (.tmp 39) rfl hg.1 (agg_of (by kernel_rfl) _) (f2.ext hx) rfl, rfl⟩)) ?_
  refine LinL.step (s := (.val (.bool true))) [(38, some 2), (40, some 0), (36, some 4)] rfl (by kernel_rfl) (op_yes (reads := [(38, some 2), (40, some 0)]) 15 36 4 true rfl rfl rfl (op_runs rfl fun σ w' hx hg => ⟨(.bool true), by have h38 : σ.tmps.getD 38 undef = .int .i64 b.var := hg.1; have h40 : σ.tmps.getD 40 undef = .int .i64 b2.var := hg.2.1; unfold Runs execOp; simp [Act.eval, h38, h40, go_sem, c2], rfl⟩)) ?_
  refine LinL.step (s := (.val (.bool true))) [(36, some 5), (41, some 0)] rfl (by kernel_rfl) (op_runs rfl fun σ w' hx hg => ⟨_, runs_pick_t (ρ := σ.eval) (w := w') (.tmp 36) (.tmp 41) (.const (.bool false)) rfl hg.1 hg.2.1, rfl⟩) ?_
  refine LinL.step (s := (.val (.bool false))) [(23, some 19), (42, some 0)] rfl (by kernel_rfl) (op_runs rfl fun σ w' hx hg => ⟨(.bool false), by have h23 : σ.tmps.getD 23 undef = .bool true := hg.1; have h42 : σ.tmps.getD 42 undef = .bool true := hg.2.1; unfold Runs execOp; simp [Act.eval, h23, h42, go_sem], rfl⟩) ?_
  refine LinL.step (s := (.val (.bool false))) [(43, some 0)] rfl (by kernel_rfl) (op_copy 43 0 (.val (.bool false)) rfl (.inl rfl) rfl) ?_
  refine LinL.step (s := (.val (.int .i64 x))) [(5, none), (44, some 0)] rfl (by kernel_rfl) (op_yes (reads := [(5, none)]) 23 44 0 false rfl rfl rfl (op_out 5 (.int .i64 x) rfl (.inl rfl) rfl)) ?_
  refine LinL.step (s := (.val (.int .i64 b.slot))) [(45, some 0), (44, some 1)] rfl (by kernel_rfl) (op_yes (reads := [(45, some 0)]) 23 44 1 false rfl rfl rfl (op_calls 21 #[(.tmp 45)] #[3] (fun σ => #[.int .i64 x]) rfl rfl (fun _ _ => rfl) fun σ w' hx hg => ⟨by have h45 : σ.tmps.getD 45 undef = .int .i64 x := hg.1; simp only [List.map_toArray, List.map_cons, List.map_nil, Act.eval, h45], slotR hI.out hS.out⟩)) ?_
  refine LinL.step (s := (.val (.pointer (some ⟨g1, 0, none⟩)))) [(2, none), (44, some 2)] rfl (by kernel_rfl) (op_yes (reads := [(2, none)]) 23 44 2 false rfl rfl rfl (op_runs rfl fun σ w' hx hg => ⟨_, runs_field (ρ := σ.eval) (w := w') Try.stBlk (.tmp 2) g1 0 rfl hg.1 (by omega), rfl⟩)) ?_
  refine LinL.step (s := (.val (.int .i64 b.slot))) [(47, some 0), (44, some 3)] rfl (by kernel_rfl) (op_yes (reads := [(47, some 0)]) 23 44 3 false rfl rfl rfl (op_runs rfl fun σ w' hx hg => ⟨_, runs_fload (ρ := σ.eval) (w := w') (.tmp 47) rfl hg.1 (agg_of (by kernel_rfl) _) (f1.ext hx) rfl, rfl⟩)) ?_
  refine LinL.step (s := (.val (.bool false))) [(46, some 2), (48, some 0), (44, some 4)] rfl (by kernel_rfl) (op_yes (reads := [(46, some 2), (48, some 0)]) 23 44 4 false rfl rfl rfl (op_runs rfl fun σ w' hx hg => ⟨(.bool false), by have h46 : σ.tmps.getD 46 undef = .int .i64 b.slot := hg.1; have h48 : σ.tmps.getD 48 undef = .int .i64 b.slot := hg.2.1; unfold Runs execOp; simp [Act.eval, h46, h48, go_sem], rfl⟩)) ?_
  refine LinL.step (s := (.val (.bool false))) [(44, some 5), (49, some 0)] rfl (by kernel_rfl) (op_runs rfl fun σ w' hx hg => ⟨_, runs_pick_f (ρ := σ.eval) (w := w') (.tmp 44) (.const (.bool true)) (.tmp 49) rfl hg.1 hg.2.1, rfl⟩) ?_
  refine LinL.step (s := (.val (.bool false))) [(50, some 0)] rfl (by kernel_rfl) (op_copy 50 0 (.val (.bool false)) rfl (.inl rfl) rfl) ?_
  refine LinL.step (s := (.val (.int .i64 x))) [(5, none), (51, some 0)] rfl (by kernel_rfl) (op_yes (reads := [(5, none)]) 30 51 0 false rfl rfl rfl (op_out 5 (.int .i64 x) rfl (.inl rfl) rfl)) ?_
  refine LinL.step (s := (.val (.int .i64 b.miner))) [(52, some 0), (51, some 1)] rfl (by kernel_rfl) (op_yes (reads := [(52, some 0)]) 30 51 1 false rfl rfl rfl (op_calls 22 #[(.tmp 52)] #[3] (fun σ => #[.int .i64 x]) rfl rfl (fun _ _ => rfl) fun σ w' hx hg => ⟨by have h52 : σ.tmps.getD 52 undef = .int .i64 x := hg.1; simp only [List.map_toArray, List.map_cons, List.map_nil, Act.eval, h52], minerR hI.out hM.out⟩)) ?_
  refine LinL.step (s := (.val (.pointer (some ⟨g1, 1, none⟩)))) [(2, none), (51, some 2)] rfl (by kernel_rfl) (op_yes (reads := [(2, none)]) 30 51 2 false rfl rfl rfl (op_runs rfl fun σ w' hx hg => ⟨_, runs_field (ρ := σ.eval) (w := w') Try.stBlk (.tmp 2) g1 1 rfl hg.1 (by omega), rfl⟩)) ?_
  refine LinL.step (s := (.val (.int .i64 b.miner))) [(54, some 0), (51, some 3)] rfl (by kernel_rfl) (op_yes (reads := [(54, some 0)]) 30 51 3 false rfl rfl rfl (op_runs rfl fun σ w' hx hg => ⟨_, runs_fload (ρ := σ.eval) (w := w') (.tmp 54) rfl hg.1 (agg_of (by kernel_rfl) _) (f1.ext hx) rfl, rfl⟩)) ?_
  refine LinL.step (s := (.val (.bool false))) [(53, some 2), (55, some 0), (51, some 4)] rfl (by kernel_rfl) (op_yes (reads := [(53, some 2), (55, some 0)]) 30 51 4 false rfl rfl rfl (op_runs rfl fun σ w' hx hg => ⟨(.bool false), by have h53 : σ.tmps.getD 53 undef = .int .i64 b.miner := hg.1; have h55 : σ.tmps.getD 55 undef = .int .i64 b.miner := hg.2.1; unfold Runs execOp; simp [Act.eval, h53, h55, go_sem], rfl⟩)) ?_
  refine LinL.step (s := (.val (.bool false))) [(51, some 5), (56, some 0)] rfl (by kernel_rfl) (op_runs rfl fun σ w' hx hg => ⟨_, runs_pick_f (ρ := σ.eval) (w := w') (.tmp 51) (.const (.bool true)) (.tmp 56) rfl hg.1 hg.2.1, rfl⟩) ?_
  intro wN hxN
  simp only [Fin', List.reverse_cons, List.reverse_nil, List.nil_append, List.cons_append, List.drop_zero, List.take_succ_cons, List.take_zero]
  simp only [Act.put, List.setIfInBounds_toArray, List.set_cons_zero, List.set_cons_succ]
  replace f1 := f1.ext hxN; replace f2 := f2.ext hxN; replace hX := hX.trans hxN
  clear cq c0 c1 c2
  go_wp2_with ((first
    | ((with_reducible refine at_field ?_); (try refine w_yes _ _ _ rfl rfl rfl ?_); refine w_field Try.stBlk _ _ _ rfl rfl rfl (by omega) ?_)
    | ((with_reducible refine at_load ?_); (try refine w_yes _ _ _ rfl rfl rfl ?_); refine w_fload _ rfl rfl rfl f1 rfl (agg_of (by kernel_rfl)) ?_)
    | fail) <;> (try simp only [Act.put, List.setIfInBounds_toArray, List.set_cons_zero, List.set_cons_succ]))
  all_goals go_ret
  all_goals first
    | exact Keep.intro ⟨rfl, hX⟩
    | exact Keep.intro ⟨by show Ending.returned (.bool (decide (y < x))) = _; rw [decide_eq_true (show y < x from by have := hlt.out; omega)], hX⟩

set_option maxRecDepth 100000 in
theorem blockApart_lifted (os : Os) (started : os.Started) (H : Type) (enc : TypeId × Value → H) :
    ReturnsInHanded {} Try.checked os 8 .any (Rows.blockApartSpec.pre6 enc Try.prog Try.f8 Rows.blockApartRow.domain false) (Rows.blockApartSpec.post enc Try.prog Try.f8 false true false false) := by
  refine law_lifted (s := Rows.blockApartSpec) (conds := Rows.blockApartRow.domain) Try.func8 (by kernel_rfl) rfl (fun H ds h => by
      rw [show Try.f8.params.size = 2 from rfl] at h
      match ds, h with
      | [d0, d1], _ => rfl) rfl rfl (by decide +kernel) os started H enc
    (ChangeSpec.witness6 (enc := enc) (C := Try.checked) false ⟨#[], #[.agg #[.int .i64 0, .int .i64 0, .int .i64 0, .int .i64 0, .slice none 0 0], .agg #[.int .i64 0, .int .i64 0, .int .i64 0, .int .i64 0, .slice none 0 0]], []⟩ 8 (by kernel_rfl) (by kernel_rfl) (by kernel_rfl) (by kernel_rfl)) ?_
  intro W base args ds p hval hA hsz _
  have hp : Try.f8.params.toList = [24, 24] := rfl
  rw [hp] at hA hsz
  obtain ⟨v0, v1, d0, d1, p0, p1, rfl, rfl, rfl, h0, h1⟩ := trodAll_two hA
  obtain ⟨row0, b0, rfl, n0, k0⟩ := arg_Blk hsz (j := 0) rfl rfl (hval 0 24 v0 rfl rfl) h0
  obtain ⟨row1, b1, rfl, n1, k1⟩ := arg_Blk hsz (j := 1) rfl rfl (hval 1 24 v1 rfl rfl) h1
  exact blockApart_law row0 b0 row1 b1 W k0 k1

theorem blockApart_holds : Rows.BlockApartSaid :=
  OpenClaim.holds_of_wide 8 Try.f8 rfl rfl rfl rfl rfl rfl rfl ⟨rfl, rfl, rfl, rfl, rfl⟩ rfl rfl rfl rfl rfl (by kernel_rfl) Try.func8 (by kernel_rfl)
    (of_decide_eq_true (by kernel_rfl)) (by unfold Func.isWrapper; first | (rw [if_pos (by decide +kernel)]; kernel_rfl) | (rw [if_neg (by decide +kernel)]; exact ⟨rfl, rfl⟩))
    (fun os started H enc _ => blockApart_lifted os started H enc)
#print axioms blockApart_holds

end Go.Proofs.Ytcjmcnepfnhnlaa
