/- The statement BlockTells: which blocks can be, their names and bytes, and whether two are the same are the document's. No condition. -/
import Derived.Test.YtcjmcnepfnhnlaaBNames
namespace Go.Proofs.Ytcjmcnepfnhnlaa
open Go.RowKit Go.ChangeShapes Go.WideShapes Go.ChangeAt

set_option maxRecDepth 100000 in
set_option maxHeartbeats 1600000 in
theorem blockTells_law (row : List Value) (b : BlkD) (row2 : List Value) (b2 : BlkD) (W : World) (hb : BlkR W row b) (hb2 : BlkR W row2 b2) :
    Calls Try.prog 4 #[.agg row.toArray, .agg row2.toArray] W fun e w' => e = .returned (.bool true) ∧ Ext W w' := by
  obtain ⟨⟨u, rfl, r1⟩, hraw⟩ := hb
  obtain ⟨⟨u2, rfl, r2⟩, _⟩ := hb2
  refine calls_keep ?_
  have hp := hide_ (show I64 b.parent from hraw.parent)
  replace r1 := hide_ r1
  replace r2 := hide_ r2
  clear hraw
  go_enter Try.func4, Try.ntmps4
  go_wp2_with ((first
    | ((with_reducible refine at_box ?_); refine w_box (.tmp 0) [.int .i64 b.slot, .int .i64 b.miner, .int .i64 b.var, .int .i64 b.parent, u] rfl rfl rfl rfl ?_; intro g1 w1 hg1 hX f1)
    | ((with_reducible refine at_box ?_); refine w_box (.tmp 1) [.int .i64 b2.slot, .int .i64 b2.miner, .int .i64 b2.var, .int .i64 b2.parent, u2] rfl rfl rfl rfl ?_; intro g2 w2 hg2 hx f2; replace f1 := f1.ext hx; replace hX := hX.trans hx; clear hx)
    | (go_at_call 12; refine (BBytes_any (b := b) (r1.out.ext TxR.stays hX) hp.out).mono ?_; rintro e w3 ⟨v5, rfl, o5, hx⟩; have b5 := o5.byt; replace f1 := f1.ext hx; replace f2 := f2.ext hx; replace hX := hX.trans hx; clear o5 hx)
    | (go_at_call 13; refine (refBBytes_any (b := b) (r1.out.ext TxR.stays hX) hp.out).mono ?_; rintro e w4 ⟨v7, rfl, o7, hx⟩; have b7 := o7.byt; replace b5 := b5.ext hx; replace f1 := f1.ext hx; replace f2 := f2.ext hx; replace hX := hX.trans hx; clear o7 hx)
    | ((with_reducible refine at_load ?_); refine w_aload Try.stBlk _ rfl rfl rfl f1 rfl ?_)
    | fail) <;> (try simp only [Act.put, List.setIfInBounds_toArray, List.set_cons_zero, List.set_cons_succ]))
  refine wp_region_phx (by kernel_rfl) ?_; intro wd hxd; replace f1 := f1.ext hxd; replace f2 := f2.ext hxd; replace b5 := b5.ext hxd; replace b7 := b7.ext hxd; replace hX := hX.trans hxd; have s1 := r1.out.ext TxR.stays hX; have s2 := r2.out.ext TxR.stays hX
  refine Ph.rest 0 37 (by kernel_rfl) ?_
  refine LinL.step (s := (.val (.bool true))) [] rfl (by kernel_rfl) (op_calls 11 #[] #[] (fun σ => #[]) rfl rfl (fun _ _ => rfl) fun σ w' hx hg => ⟨by simp only [List.map_toArray, List.map_nil], aliveR w'⟩) ?_
  refine LinL.step (s := (.val (.bool true))) [(19, some 0)] rfl (by kernel_rfl) (op_copy 19 0 (.val (.bool true)) rfl (.inl rfl) rfl) ?_
  refine LinL.step (s := (.val (.agg #[.int .i64 b.slot, .int .i64 b.miner, .int .i64 b.var, .int .i64 b.parent, u]))) [(2, none), (20, some 0)] rfl (by kernel_rfl) (op_yes (reads := [(2, none)]) 1 20 0 true rfl rfl rfl (op_runs rfl fun σ w' hx hg => ⟨_, runs_aload (ρ := σ.eval) (w := w') Try.stBlk (.tmp 2) rfl hg.1 (f1.ext hx) rfl, rfl⟩)) ?_
  refine LinL.step (s := (.val (.bool (decide b.Right)))) [(21, some 0), (20, some 1)] rfl (by kernel_rfl) (op_yes (reads := [(21, some 0)]) 1 20 1 true rfl rfl rfl (op_calls 14 #[(.tmp 21)] #[24] (fun σ => #[.agg #[.int .i64 b.slot, .int .i64 b.miner, .int .i64 b.var, .int .i64 b.parent, u]]) rfl rfl (fun _ _ => rfl) fun σ w' hx hg => ⟨by have h21 : σ.tmps.getD 21 undef = .agg #[.int .i64 b.slot, .int .i64 b.miner, .int .i64 b.var, .int .i64 b.parent, u] := hg.1; simp only [List.map_toArray, List.map_cons, List.map_nil, Act.eval, h21], retR (BRight_any (b := b) (s1.ext TxR.stays hx) hp.out)⟩)) ?_
  refine LinL.step (s := (.val (.agg #[.int .i64 b.slot, .int .i64 b.miner, .int .i64 b.var, .int .i64 b.parent, u]))) [(2, none), (20, some 2)] rfl (by kernel_rfl) (op_yes (reads := [(2, none)]) 1 20 2 true rfl rfl rfl (op_runs rfl fun σ w' hx hg => ⟨_, runs_aload (ρ := σ.eval) (w := w') Try.stBlk (.tmp 2) rfl hg.1 (f1.ext hx) rfl, rfl⟩)) ?_
  refine LinL.step (s := (.val (.bool (decide b.Right)))) [(23, some 0), (20, some 3)] rfl (by kernel_rfl) (op_yes (reads := [(23, some 0)]) 1 20 3 true rfl rfl rfl (op_calls 15 #[(.tmp 23)] #[24] (fun σ => #[.agg #[.int .i64 b.slot, .int .i64 b.miner, .int .i64 b.var, .int .i64 b.parent, u]]) rfl rfl (fun _ _ => rfl) fun σ w' hx hg => ⟨by have h23 : σ.tmps.getD 23 undef = .agg #[.int .i64 b.slot, .int .i64 b.miner, .int .i64 b.var, .int .i64 b.parent, u] := hg.1; simp only [List.map_toArray, List.map_cons, List.map_nil, Act.eval, h23], retR (refBRight_any (b := b) (s1.ext TxR.stays hx) hp.out)⟩)) ?_
  refine LinL.step (s := (.val (.bool true))) [(22, some 2), (24, some 0), (20, some 4)] rfl (by kernel_rfl) (op_yes (reads := [(22, some 2), (24, some 0)]) 1 20 4 true rfl rfl rfl (op_runs rfl fun σ w' hx hg => ⟨(.bool true), by have h22 : σ.tmps.getD 22 undef = .bool (decide b.Right) := hg.1; have h24 : σ.tmps.getD 24 undef = .bool (decide b.Right) := hg.2.1; unfold Runs execOp; simp [Act.eval, h22, h24, go_sem], rfl⟩)) ?_
  refine LinL.step (s := (.val (.bool true))) [(20, some 5), (25, some 0)] rfl (by kernel_rfl) (op_runs rfl fun σ w' hx hg => ⟨_, runs_pick_t (ρ := σ.eval) (w := w') (.tmp 20) (.tmp 25) (.const (.bool false)) rfl hg.1 hg.2.1, rfl⟩) ?_
  refine LinL.step (s := (.val (.bool true))) [(26, some 0)] rfl (by kernel_rfl) (op_copy 26 0 (.val (.bool true)) rfl (.inl rfl) rfl) ?_
  refine LinL.step (s := (.val (.agg #[.int .i64 b.slot, .int .i64 b.miner, .int .i64 b.var, .int .i64 b.parent, u]))) [(2, none), (27, some 0)] rfl (by kernel_rfl) (op_yes (reads := [(2, none)]) 8 27 0 true rfl rfl rfl (op_runs rfl fun σ w' hx hg => ⟨_, runs_aload (ρ := σ.eval) (w := w') Try.stBlk (.tmp 2) rfl hg.1 (f1.ext hx) rfl, rfl⟩)) ?_
  refine LinL.step (s := (.val (.int .i64 b.name))) [(28, some 0), (27, some 1)] rfl (by kernel_rfl) (op_yes (reads := [(28, some 0)]) 8 27 1 true rfl rfl rfl (op_calls 16 #[(.tmp 28)] #[24] (fun σ => #[.agg #[.int .i64 b.slot, .int .i64 b.miner, .int .i64 b.var, .int .i64 b.parent, u]]) rfl rfl (fun _ _ => rfl) fun σ w' hx hg => ⟨by have h28 : σ.tmps.getD 28 undef = .agg #[.int .i64 b.slot, .int .i64 b.miner, .int .i64 b.var, .int .i64 b.parent, u] := hg.1; simp only [List.map_toArray, List.map_cons, List.map_nil, Act.eval, h28], retR (BName_any (b := b) (s1.ext TxR.stays hx) hp.out)⟩)) ?_
  refine LinL.step (s := (.val (.agg #[.int .i64 b.slot, .int .i64 b.miner, .int .i64 b.var, .int .i64 b.parent, u]))) [(2, none), (27, some 2)] rfl (by kernel_rfl) (op_yes (reads := [(2, none)]) 8 27 2 true rfl rfl rfl (op_runs rfl fun σ w' hx hg => ⟨_, runs_aload (ρ := σ.eval) (w := w') Try.stBlk (.tmp 2) rfl hg.1 (f1.ext hx) rfl, rfl⟩)) ?_
  refine LinL.step (s := (.val (.int .i64 b.name))) [(30, some 0), (27, some 3)] rfl (by kernel_rfl) (op_yes (reads := [(30, some 0)]) 8 27 3 true rfl rfl rfl (op_calls 17 #[(.tmp 30)] #[24] (fun σ => #[.agg #[.int .i64 b.slot, .int .i64 b.miner, .int .i64 b.var, .int .i64 b.parent, u]]) rfl rfl (fun _ _ => rfl) fun σ w' hx hg => ⟨by have h30 : σ.tmps.getD 30 undef = .agg #[.int .i64 b.slot, .int .i64 b.miner, .int .i64 b.var, .int .i64 b.parent, u] := hg.1; simp only [List.map_toArray, List.map_cons, List.map_nil, Act.eval, h30], retR (refBName_any (b := b) (s1.ext TxR.stays hx) hp.out)⟩)) ?_
  refine LinL.step (s := (.val (.bool true))) [(29, some 2), (31, some 0), (27, some 4)] rfl (by kernel_rfl) (op_yes (reads := [(29, some 2), (31, some 0)]) 8 27 4 true rfl rfl rfl (op_runs rfl fun σ w' hx hg => ⟨(.bool true), by have h29 : σ.tmps.getD 29 undef = .int .i64 b.name := hg.1; have h31 : σ.tmps.getD 31 undef = .int .i64 b.name := hg.2.1; unfold Runs execOp; simp [Act.eval, h29, h31, go_sem], rfl⟩)) ?_
  refine LinL.step (s := (.val (.bool true))) [(27, some 5), (32, some 0)] rfl (by kernel_rfl) (op_runs rfl fun σ w' hx hg => ⟨_, runs_pick_t (ρ := σ.eval) (w := w') (.tmp 27) (.tmp 32) (.const (.bool false)) rfl hg.1 hg.2.1, rfl⟩) ?_
  refine LinL.step (s := (.val (.bool true))) [(33, some 0)] rfl (by kernel_rfl) (op_copy 33 0 (.val (.bool true)) rfl (.inl rfl) rfl) ?_
  refine LinL.step (s := (.val (.agg #[.int .i64 b.slot, .int .i64 b.miner, .int .i64 b.var, .int .i64 b.parent, u]))) [(2, none), (34, some 0)] rfl (by kernel_rfl) (op_yes (reads := [(2, none)]) 15 34 0 true rfl rfl rfl (op_runs rfl fun σ w' hx hg => ⟨_, runs_aload (ρ := σ.eval) (w := w') Try.stBlk (.tmp 2) rfl hg.1 (f1.ext hx) rfl, rfl⟩)) ?_
  refine LinL.step (s := (.val (.agg #[.int .i64 b2.slot, .int .i64 b2.miner, .int .i64 b2.var, .int .i64 b2.parent, u2]))) [(3, none), (34, some 1)] rfl (by kernel_rfl) (op_yes (reads := [(3, none)]) 15 34 1 true rfl rfl rfl (op_runs rfl fun σ w' hx hg => ⟨_, runs_aload (ρ := σ.eval) (w := w') Try.stBlk (.tmp 3) rfl hg.1 (f2.ext hx) rfl, rfl⟩)) ?_
  refine LinL.step (s := (.val (.bool (b.same b2)))) [(35, some 1), (36, some 0), (34, some 2)] rfl (by kernel_rfl) (op_yes (reads := [(35, some 1), (36, some 0)]) 15 34 2 true rfl rfl rfl (op_calls 18 #[(.tmp 35), (.tmp 36)] #[24, 24] (fun σ => #[.agg #[.int .i64 b.slot, .int .i64 b.miner, .int .i64 b.var, .int .i64 b.parent, u], .agg #[.int .i64 b2.slot, .int .i64 b2.miner, .int .i64 b2.var, .int .i64 b2.parent, u2]]) rfl rfl (fun _ _ => rfl) fun σ w' hx hg => ⟨by have h35 : σ.tmps.getD 35 undef = .agg #[.int .i64 b.slot, .int .i64 b.miner, .int .i64 b.var, .int .i64 b.parent, u] := hg.1; have h36 : σ.tmps.getD 36 undef = .agg #[.int .i64 b2.slot, .int .i64 b2.miner, .int .i64 b2.var, .int .i64 b2.parent, u2] := hg.2.1; simp only [List.map_toArray, List.map_cons, List.map_nil, Act.eval, h35, h36], retR (BSame_any (b := b) (b2 := b2) (s1.ext TxR.stays hx) (s2.ext TxR.stays hx))⟩)) ?_
  refine LinL.step (s := (.val (.agg #[.int .i64 b.slot, .int .i64 b.miner, .int .i64 b.var, .int .i64 b.parent, u]))) [(2, none), (34, some 3)] rfl (by kernel_rfl) (op_yes (reads := [(2, none)]) 15 34 3 true rfl rfl rfl (op_runs rfl fun σ w' hx hg => ⟨_, runs_aload (ρ := σ.eval) (w := w') Try.stBlk (.tmp 2) rfl hg.1 (f1.ext hx) rfl, rfl⟩)) ?_
  refine LinL.step (s := (.val (.agg #[.int .i64 b2.slot, .int .i64 b2.miner, .int .i64 b2.var, .int .i64 b2.parent, u2]))) [(3, none), (34, some 4)] rfl (by kernel_rfl) (op_yes (reads := [(3, none)]) 15 34 4 true rfl rfl rfl (op_runs rfl fun σ w' hx hg => ⟨_, runs_aload (ρ := σ.eval) (w := w') Try.stBlk (.tmp 3) rfl hg.1 (f2.ext hx) rfl, rfl⟩)) ?_
  refine LinL.step (s := (.val (.bool (b.same b2)))) [(38, some 1), (39, some 0), (34, some 5)] rfl (by kernel_rfl) (op_yes (reads := [(38, some 1), (39, some 0)]) 15 34 5 true rfl rfl rfl (op_calls 19 #[(.tmp 38), (.tmp 39)] #[24, 24] (fun σ => #[.agg #[.int .i64 b.slot, .int .i64 b.miner, .int .i64 b.var, .int .i64 b.parent, u], .agg #[.int .i64 b2.slot, .int .i64 b2.miner, .int .i64 b2.var, .int .i64 b2.parent, u2]]) rfl rfl (fun _ _ => rfl) fun σ w' hx hg => ⟨by have h38 : σ.tmps.getD 38 undef = .agg #[.int .i64 b.slot, .int .i64 b.miner, .int .i64 b.var, .int .i64 b.parent, u] := hg.1; have h39 : σ.tmps.getD 39 undef = .agg #[.int .i64 b2.slot, .int .i64 b2.miner, .int .i64 b2.var, .int .i64 b2.parent, u2] := hg.2.1; simp only [List.map_toArray, List.map_cons, List.map_nil, Act.eval, h38, h39], retR (refBSame_any (b := b) (b2 := b2) (s1.ext TxR.stays hx) (s2.ext TxR.stays hx))⟩)) ?_
  refine LinL.step (s := (.val (.bool true))) [(37, some 3), (40, some 0), (34, some 6)] rfl (by kernel_rfl) (op_yes (reads := [(37, some 3), (40, some 0)]) 15 34 6 true rfl rfl rfl (op_runs rfl fun σ w' hx hg => ⟨(.bool true), by have h37 : σ.tmps.getD 37 undef = .bool (b.same b2) := hg.1; have h40 : σ.tmps.getD 40 undef = .bool (b.same b2) := hg.2.1; unfold Runs execOp; simp [Act.eval, h37, h40, go_sem], rfl⟩)) ?_
  refine LinL.step (s := (.val (.bool true))) [(34, some 7), (41, some 0)] rfl (by kernel_rfl) (op_runs rfl fun σ w' hx hg => ⟨_, runs_pick_t (ρ := σ.eval) (w := w') (.tmp 34) (.tmp 41) (.const (.bool false)) rfl hg.1 hg.2.1, rfl⟩) ?_
  refine LinL.step (s := (.val (.bool true))) [(42, some 0)] rfl (by kernel_rfl) (op_copy 42 0 (.val (.bool true)) rfl (.inl rfl) rfl) ?_
  refine LinL.step (s := (.val (v5))) [(5, none), (43, some 0)] rfl (by kernel_rfl) (op_yes (reads := [(5, none)]) 24 43 0 true rfl rfl rfl (op_out 5 (v5) rfl (.inl rfl) rfl)) ?_
  refine LinL.step (s := (.val (.string (strN (bB b))))) [(44, some 0), (43, some 1)] rfl (by kernel_rfl) (op_yes (reads := [(44, some 0)]) 24 43 1 true rfl rfl rfl (op_runs rfl fun σ w' hx hg => ⟨_, runs_str (ρ := σ.eval) (w := w') (.tmp 44) rfl hg.1 (b5.ext hx), rfl⟩)) ?_
  refine LinL.step (s := (.val (v7))) [(7, none), (43, some 2)] rfl (by kernel_rfl) (op_yes (reads := [(7, none)]) 24 43 2 true rfl rfl rfl (op_out 7 (v7) rfl (.inl rfl) rfl)) ?_
  refine LinL.step (s := (.val (.string (strN (bB b))))) [(46, some 0), (43, some 3)] rfl (by kernel_rfl) (op_yes (reads := [(46, some 0)]) 24 43 3 true rfl rfl rfl (op_runs rfl fun σ w' hx hg => ⟨_, runs_str (ρ := σ.eval) (w := w') (.tmp 46) rfl hg.1 (b7.ext hx), rfl⟩)) ?_
  refine LinL.step (s := (.val (.bool true))) [(45, some 2), (47, some 0), (43, some 4)] rfl (by kernel_rfl) (op_yes (reads := [(45, some 2), (47, some 0)]) 24 43 4 true rfl rfl rfl (op_runs rfl fun σ w' hx hg => ⟨(.bool true), by have h45 : σ.tmps.getD 45 undef = .string (strN (bB b)) := hg.1; have h47 : σ.tmps.getD 47 undef = .string (strN (bB b)) := hg.2.1; unfold Runs execOp; simp [Act.eval, h45, h47, go_sem], rfl⟩)) ?_
  refine LinL.step (s := (.val (.bool true))) [(43, some 5), (48, some 0)] rfl (by kernel_rfl) (op_runs rfl fun σ w' hx hg => ⟨_, runs_pick_t (ρ := σ.eval) (w := w') (.tmp 43) (.tmp 48) (.const (.bool false)) rfl hg.1 hg.2.1, rfl⟩) ?_
  refine LinL.step (s := (.val (.bool true))) [(49, some 0)] rfl (by kernel_rfl) (op_copy 49 0 (.val (.bool true)) rfl (.inl rfl) rfl) ?_
  refine LinL.step (s := (.val (.int .i64 (bE b : Nat)))) [(6, none), (50, some 0)] rfl (by kernel_rfl) (op_yes (reads := [(6, none)]) 31 50 0 true rfl rfl rfl (op_out 6 (.int .i64 (bE b : Nat)) rfl (.inl rfl) rfl)) ?_
  refine LinL.step (s := (.val (.int .i64 (bE b : Nat)))) [(8, none), (50, some 1)] rfl (by kernel_rfl) (op_yes (reads := [(8, none)]) 31 50 1 true rfl rfl rfl (op_out 8 (.int .i64 (bE b : Nat)) rfl (.inl rfl) rfl)) ?_
  refine LinL.step (s := (.val (.bool true))) [(51, some 1), (52, some 0), (50, some 2)] rfl (by kernel_rfl) (op_yes (reads := [(51, some 1), (52, some 0)]) 31 50 2 true rfl rfl rfl (op_runs rfl fun σ w' hx hg => ⟨(.bool true), by have h51 : σ.tmps.getD 51 undef = .int .i64 (bE b : Nat) := hg.1; have h52 : σ.tmps.getD 52 undef = .int .i64 (bE b : Nat) := hg.2.1; unfold Runs execOp; simp [Act.eval, h51, h52, go_sem], rfl⟩)) ?_
  refine LinL.step (s := (.val (.bool true))) [(50, some 3), (53, some 0)] rfl (by kernel_rfl) (op_runs rfl fun σ w' hx hg => ⟨_, runs_pick_t (ρ := σ.eval) (w := w') (.tmp 50) (.tmp 53) (.const (.bool false)) rfl hg.1 hg.2.1, rfl⟩) ?_
  refine LinL.step (s := (.val (.bool true))) [(54, some 0)] rfl (by kernel_rfl) (op_copy 54 0 (.val (.bool true)) rfl (.inr rfl) rfl) ?_
  intro wN hxN
  simp only [Fin', List.reverse_cons, List.reverse_nil, List.nil_append, List.cons_append, List.drop_zero, List.take_succ_cons, List.take_zero]
  simp only [Act.put, List.setIfInBounds_toArray, List.set_cons_zero, List.set_cons_succ]
  replace hX := hX.trans hxN
  go_wp2
  go_ret
  exact Keep.intro ⟨rfl, hX⟩

set_option maxRecDepth 100000 in
theorem blockTells_lifted (os : Os) (started : os.Started) (H : Type) (enc : TypeId × Value → H) :
    ReturnsInHanded {} Try.checked os 4 .any (Rows.blockTellsSpec.pre6 enc Try.prog Try.f4 Rows.blockTellsRow.domain false) (Rows.blockTellsSpec.post enc Try.prog Try.f4 false true false false) := by
  refine law_lifted (s := Rows.blockTellsSpec) (conds := Rows.blockTellsRow.domain) Try.func4 (by kernel_rfl) rfl (fun H ds h => by
      rw [show Try.f4.params.size = 2 from rfl] at h
      match ds, h with
      | [d0, d1], _ => rfl) rfl rfl (by decide +kernel) os started H enc
    (ChangeSpec.witness6 (enc := enc) (C := Try.checked) false ⟨#[], #[.agg #[.int .i64 0, .int .i64 0, .int .i64 0, .int .i64 0, .slice none 0 0], .agg #[.int .i64 0, .int .i64 0, .int .i64 0, .int .i64 0, .slice none 0 0]], []⟩ 8 (by kernel_rfl) (by kernel_rfl) (by kernel_rfl) (by kernel_rfl)) ?_
  intro W base args ds p hval hA hsz _
  have hp : Try.f4.params.toList = [24, 24] := rfl
  rw [hp] at hA hsz
  obtain ⟨v0, v1, d0, d1, p0, p1, rfl, rfl, rfl, h0, h1⟩ := trodAll_two hA
  obtain ⟨row0, b0, rfl, n0, k0⟩ := arg_Blk hsz (j := 0) rfl rfl (hval 0 24 v0 rfl rfl) h0
  obtain ⟨row1, b1, rfl, n1, k1⟩ := arg_Blk hsz (j := 1) rfl rfl (hval 1 24 v1 rfl rfl) h1
  exact blockTells_law row0 b0 row1 b1 W k0 k1

theorem blockTells_holds : Rows.BlockTellsSaid :=
  OpenClaim.holds_of_wide 4 Try.f4 rfl rfl rfl rfl rfl rfl rfl ⟨rfl, rfl, rfl, rfl, rfl⟩ rfl rfl rfl rfl rfl (by kernel_rfl) Try.func4 (by kernel_rfl)
    (of_decide_eq_true (by kernel_rfl)) (by unfold Func.isWrapper; first | (rw [if_pos (by decide +kernel)]; kernel_rfl) | (rw [if_neg (by decide +kernel)]; exact ⟨rfl, rfl⟩))
    (fun os started H enc _ => blockTells_lifted os started H enc)
#print axioms blockTells_holds

end Go.Proofs.Ytcjmcnepfnhnlaa
