/- The statement MsgTells: which messages can be, their bytes, and whether two are the same are the document's; a copy is the same. No condition. -/
import Derived.Test.YtidhhmmjiflpjaaMgLa
import Derived.Test.YtidhhmmjiflpjaaFL
namespace Go.Proofs.Ytidhhmmjiflpjaa
set_option maxRecDepth 100000
open Go.RowKit Go.ChangeShapes Go.WideShapes Go.ChangeAt

theorem mretR {f : FuncId} {args : Array Value} {w : World} {u : Value} (h : Calls Try.prog f args w fun e w' => e = .returned u ∧ Ext w w') : Calls Try.prog f args w fun e w' => ∃ v', e = .returned v' ∧ Ext w w' ∧ Sp.p (.val u) v' w' := by
  refine h.mono ?_
  rintro e w' ⟨rfl, hx⟩
  exact ⟨_, rfl, hx, rfl⟩
/-- A message by value, its block's list as it reads. -/
def Sp.msg (d : MsgD) : Sp := .any (fun v w => ∃ u, v = .agg (mRow d u).toArray ∧ Recs 2 TxR w u d.bk.txs) fun _ _ _ ⟨u, h1, h2⟩ he => ⟨u, h1, h2.ext TxR.stays he⟩
theorem mcopyR {w : World} {u : Value} {d : MsgD} (h1 : Recs 2 TxR w u d.bk.txs) (hl : d.bk.txs.length * 16 ≤ 140737488355328) : Calls Try.prog 16 #[.agg (mRow d u).toArray] w fun e w' => ∃ v', e = .returned v' ∧ Ext w w' ∧ (Sp.msg d).p v' w' :=
  (MCopy_any h1 hl).mono fun _ _ ⟨u', he, ho, hx⟩ => ⟨_, he, hx, u', rfl, ho.recs⟩
theorem msameSpR {w : World} {v u : Value} {d : MsgD} (h1 : (Sp.msg d).p v w) (h2 : Recs 2 TxR w u d.bk.txs) : Calls Try.prog 14 #[v, .agg (mRow d u).toArray] w fun e w' => ∃ v', e = .returned v' ∧ Ext w w' ∧ Sp.p (.val (.bool true)) v' w' := by
  obtain ⟨u', rfl, h⟩ := h1
  have k := MSame_any h h2
  rw [decide_eq_true (rfl : d = d)] at k
  exact mretR k
set_option maxRecDepth 100000 in
set_option maxHeartbeats 3200000 in
theorem msgTells_law (row : List Value) (a : MsgD) (row2 : List Value) (b : MsgD) (W : World) (ha : MsgR W row a) (hb : MsgR W row2 b) :
    Calls Try.prog 4 #[.agg row.toArray, .agg row2.toArray] W fun e w' => e = .returned (.bool true) ∧ Ext W w' := by
  obtain ⟨⟨u, rfl, r1⟩, hraw⟩ := ha
  obtain ⟨⟨u2, rfl, r2⟩, _⟩ := hb
  refine calls_keep ?_
  have hp := hide_ (show I64 a.vl ∧ I64 a.bk.parent from ⟨hraw.vl, hraw.bk.parent⟩)
  have hfew := hide_ hraw.few
  replace r1 := hide_ r1
  replace r2 := hide_ r2
  clear hraw
  go_enter Try.func4, Try.ntmps4
  go_wp2_with ((first
    | ((with_reducible refine at_box ?_); refine w_box (.tmp 0) (mRow a u) rfl rfl rfl rfl ?_; intro g1 w1 hg1 hX f1)
    | ((with_reducible refine at_box ?_); refine w_box (.tmp 1) (mRow b u2) rfl rfl rfl rfl ?_; intro g2 w2 hg2 hx f2; replace f1 := f1.ext hx; replace hX := hX.trans hx; clear hx)
    | (go_at_call 10; refine (MBytes_any (d := a) (u := u) (r1.out.ext TxR.stays hX) hp.out.1 hp.out.2).mono ?_; rintro e w3 ⟨v5, rfl, o5, hx⟩; have b5 := o5.byt; replace f1 := f1.ext hx; replace f2 := f2.ext hx; replace hX := hX.trans hx; clear o5 hx)
    | (go_at_call 11; refine (refMBytes_any (d := a) (u := u) (r1.out.ext TxR.stays hX) hp.out.1 hp.out.2).mono ?_; rintro e w4 ⟨v7, rfl, o7, hx⟩; have b7 := o7.byt; replace b5 := b5.ext hx; replace f1 := f1.ext hx; replace f2 := f2.ext hx; replace hX := hX.trans hx; clear o7 hx)
    | ((with_reducible refine at_load ?_); refine w_loadN Try.stMsg _ (mRow a u) rfl rfl rfl f1 rfl mself_at ?_)
    | fail) <;> (try simp only [Act.put, List.setIfInBounds_toArray, List.set_cons_zero, List.set_cons_succ]))
  refine wp_region_phx (by kernel_rfl) ?_; intro wd hxd; replace f1 := f1.ext hxd; replace f2 := f2.ext hxd; replace b5 := b5.ext hxd; replace b7 := b7.ext hxd; replace hX := hX.trans hxd; have s1 := r1.out.ext TxR.stays hX; have s2 := r2.out.ext TxR.stays hX
  refine Ph.rest 0 36 (by kernel_rfl) ?_
  refine LinL.step (s := (.val (.bool true))) [] rfl (by kernel_rfl) (op_calls 9 #[] #[] (fun σ => #[]) rfl rfl (fun _ _ => rfl) fun σ w' hx hg => ⟨by simp only [List.map_toArray, List.map_nil], aliveR w'⟩) ?_
  refine LinL.step (s := (.val (.bool true))) [(19, some 0)] rfl (by kernel_rfl) (op_copy 19 0 (.val (.bool true)) rfl (.inl rfl) rfl) ?_
  refine LinL.step (s := (.val (.agg (mRow a u).toArray))) [(2, none), (20, some 0)] rfl (by kernel_rfl) (op_yes (reads := [(2, none)]) 1 20 0 true rfl rfl rfl (op_runs rfl fun σ w' hx hg => ⟨_, runs_loadN (ρ := σ.eval) (w := w') (us := mRow a u) Try.stMsg (.tmp 2) rfl hg.1 (f1.ext hx) rfl mself_at, rfl⟩)) ?_
  refine LinL.step (s := (.val (.bool (decide a.Right)))) [(21, some 0), (20, some 1)] rfl (by kernel_rfl) (op_yes (reads := [(21, some 0)]) 1 20 1 true rfl rfl rfl (op_calls 12 #[(.tmp 21)] #[29] (fun σ => #[.agg (mRow a u).toArray]) rfl rfl (fun _ _ => rfl) fun σ w' hx hg => ⟨by have h21 : σ.tmps.getD 21 undef = .agg (mRow a u).toArray := hg.1; simp only [List.map_toArray, List.map_cons, List.map_nil, Act.eval, h21], mretR (MRight_any (d := a) (u := u) (s1.ext TxR.stays hx) hp.out.1 hp.out.2)⟩)) ?_
  refine LinL.step (s := (.val (.agg (mRow a u).toArray))) [(2, none), (20, some 2)] rfl (by kernel_rfl) (op_yes (reads := [(2, none)]) 1 20 2 true rfl rfl rfl (op_runs rfl fun σ w' hx hg => ⟨_, runs_loadN (ρ := σ.eval) (w := w') (us := mRow a u) Try.stMsg (.tmp 2) rfl hg.1 (f1.ext hx) rfl mself_at, rfl⟩)) ?_
  refine LinL.step (s := (.val (.bool (decide a.Right)))) [(23, some 0), (20, some 3)] rfl (by kernel_rfl) (op_yes (reads := [(23, some 0)]) 1 20 3 true rfl rfl rfl (op_calls 13 #[(.tmp 23)] #[29] (fun σ => #[.agg (mRow a u).toArray]) rfl rfl (fun _ _ => rfl) fun σ w' hx hg => ⟨by have h23 : σ.tmps.getD 23 undef = .agg (mRow a u).toArray := hg.1; simp only [List.map_toArray, List.map_cons, List.map_nil, Act.eval, h23], mretR (refMRight_any (d := a) (u := u) (s1.ext TxR.stays hx) hp.out.1 hp.out.2)⟩)) ?_
  refine LinL.step (s := (.val (.bool true))) [(22, some 2), (24, some 0), (20, some 4)] rfl (by kernel_rfl) (op_yes (reads := [(22, some 2), (24, some 0)]) 1 20 4 true rfl rfl rfl (op_runs rfl fun σ w' hx hg => ⟨(.bool true), by have h22 : σ.tmps.getD 22 undef = .bool (decide a.Right) := hg.1; have h24 : σ.tmps.getD 24 undef = .bool (decide a.Right) := hg.2.1; unfold Runs execOp; simp [Act.eval, h22, h24, go_sem], rfl⟩)) ?_
  refine LinL.step (s := (.val (.bool true))) [(20, some 5), (25, some 0)] rfl (by kernel_rfl) (op_runs rfl fun σ w' hx hg => ⟨_, runs_pick_t (ρ := σ.eval) (w := w') (.tmp 20) (.tmp 25) (.const (.bool false)) rfl hg.1 hg.2.1, rfl⟩) ?_
  refine LinL.step (s := (.val (.bool true))) [(26, some 0)] rfl (by kernel_rfl) (op_copy 26 0 (.val (.bool true)) rfl (.inl rfl) rfl) ?_
  refine LinL.step (s := (.val (.agg (mRow a u).toArray))) [(2, none), (27, some 0)] rfl (by kernel_rfl) (op_yes (reads := [(2, none)]) 8 27 0 true rfl rfl rfl (op_runs rfl fun σ w' hx hg => ⟨_, runs_loadN (ρ := σ.eval) (w := w') (us := mRow a u) Try.stMsg (.tmp 2) rfl hg.1 (f1.ext hx) rfl mself_at, rfl⟩)) ?_
  refine LinL.step (s := (.val (.agg (mRow b u2).toArray))) [(3, none), (27, some 1)] rfl (by kernel_rfl) (op_yes (reads := [(3, none)]) 8 27 1 true rfl rfl rfl (op_runs rfl fun σ w' hx hg => ⟨_, runs_loadN (ρ := σ.eval) (w := w') (us := mRow b u2) Try.stMsg (.tmp 3) rfl hg.1 (f2.ext hx) rfl mself_at, rfl⟩)) ?_
  refine LinL.step (s := (.val (.bool (decide (a = b))))) [(28, some 1), (29, some 0), (27, some 2)] rfl (by kernel_rfl) (op_yes (reads := [(28, some 1), (29, some 0)]) 8 27 2 true rfl rfl rfl (op_calls 14 #[(.tmp 28), (.tmp 29)] #[29, 29] (fun σ => #[.agg (mRow a u).toArray, .agg (mRow b u2).toArray]) rfl rfl (fun _ _ => rfl) fun σ w' hx hg => ⟨by have h28 : σ.tmps.getD 28 undef = .agg (mRow a u).toArray := hg.1; have h29 : σ.tmps.getD 29 undef = .agg (mRow b u2).toArray := hg.2.1; simp only [List.map_toArray, List.map_cons, List.map_nil, Act.eval, h28, h29], mretR (MSame_any (a := a) (b := b) (u1 := u) (u2 := u2) (s1.ext TxR.stays hx) (s2.ext TxR.stays hx))⟩)) ?_
  refine LinL.step (s := (.val (.agg (mRow a u).toArray))) [(2, none), (27, some 3)] rfl (by kernel_rfl) (op_yes (reads := [(2, none)]) 8 27 3 true rfl rfl rfl (op_runs rfl fun σ w' hx hg => ⟨_, runs_loadN (ρ := σ.eval) (w := w') (us := mRow a u) Try.stMsg (.tmp 2) rfl hg.1 (f1.ext hx) rfl mself_at, rfl⟩)) ?_
  refine LinL.step (s := (.val (.agg (mRow b u2).toArray))) [(3, none), (27, some 4)] rfl (by kernel_rfl) (op_yes (reads := [(3, none)]) 8 27 4 true rfl rfl rfl (op_runs rfl fun σ w' hx hg => ⟨_, runs_loadN (ρ := σ.eval) (w := w') (us := mRow b u2) Try.stMsg (.tmp 3) rfl hg.1 (f2.ext hx) rfl mself_at, rfl⟩)) ?_
  refine LinL.step (s := (.val (.bool (decide (a = b))))) [(31, some 1), (32, some 0), (27, some 5)] rfl (by kernel_rfl) (op_yes (reads := [(31, some 1), (32, some 0)]) 8 27 5 true rfl rfl rfl (op_calls 15 #[(.tmp 31), (.tmp 32)] #[29, 29] (fun σ => #[.agg (mRow a u).toArray, .agg (mRow b u2).toArray]) rfl rfl (fun _ _ => rfl) fun σ w' hx hg => ⟨by have h31 : σ.tmps.getD 31 undef = .agg (mRow a u).toArray := hg.1; have h32 : σ.tmps.getD 32 undef = .agg (mRow b u2).toArray := hg.2.1; simp only [List.map_toArray, List.map_cons, List.map_nil, Act.eval, h31, h32], mretR (refMSame_any (a := a) (b := b) (u1 := u) (u2 := u2) (s1.ext TxR.stays hx) (s2.ext TxR.stays hx))⟩)) ?_
  refine LinL.step (s := (.val (.bool true))) [(30, some 3), (33, some 0), (27, some 6)] rfl (by kernel_rfl) (op_yes (reads := [(30, some 3), (33, some 0)]) 8 27 6 true rfl rfl rfl (op_runs rfl fun σ w' hx hg => ⟨(.bool true), by have h30 : σ.tmps.getD 30 undef = .bool (decide (a = b)) := hg.1; have h33 : σ.tmps.getD 33 undef = .bool (decide (a = b)) := hg.2.1; unfold Runs execOp; simp [Act.eval, h30, h33, go_sem], rfl⟩)) ?_
  refine LinL.step (s := (.val (.bool true))) [(27, some 7), (34, some 0)] rfl (by kernel_rfl) (op_runs rfl fun σ w' hx hg => ⟨_, runs_pick_t (ρ := σ.eval) (w := w') (.tmp 27) (.tmp 34) (.const (.bool false)) rfl hg.1 hg.2.1, rfl⟩) ?_
  refine LinL.step (s := (.val (.bool true))) [(35, some 0)] rfl (by kernel_rfl) (op_copy 35 0 (.val (.bool true)) rfl (.inl rfl) rfl) ?_
  refine LinL.step (s := (.val (v5))) [(5, none), (36, some 0)] rfl (by kernel_rfl) (op_yes (reads := [(5, none)]) 17 36 0 true rfl rfl rfl (op_out 5 (v5) rfl (.inl rfl) rfl)) ?_
  refine LinL.step (s := (.val (.string (strN (mB a))))) [(37, some 0), (36, some 1)] rfl (by kernel_rfl) (op_yes (reads := [(37, some 0)]) 17 36 1 true rfl rfl rfl (op_runs rfl fun σ w' hx hg => ⟨_, runs_str (ρ := σ.eval) (w := w') (.tmp 37) rfl hg.1 (b5.ext hx), rfl⟩)) ?_
  refine LinL.step (s := (.val (v7))) [(7, none), (36, some 2)] rfl (by kernel_rfl) (op_yes (reads := [(7, none)]) 17 36 2 true rfl rfl rfl (op_out 7 (v7) rfl (.inl rfl) rfl)) ?_
  refine LinL.step (s := (.val (.string (strN (mB a))))) [(39, some 0), (36, some 3)] rfl (by kernel_rfl) (op_yes (reads := [(39, some 0)]) 17 36 3 true rfl rfl rfl (op_runs rfl fun σ w' hx hg => ⟨_, runs_str (ρ := σ.eval) (w := w') (.tmp 39) rfl hg.1 (b7.ext hx), rfl⟩)) ?_
  refine LinL.step (s := (.val (.bool true))) [(38, some 2), (40, some 0), (36, some 4)] rfl (by kernel_rfl) (op_yes (reads := [(38, some 2), (40, some 0)]) 17 36 4 true rfl rfl rfl (op_runs rfl fun σ w' hx hg => ⟨(.bool true), by have h38 : σ.tmps.getD 38 undef = .string (strN (mB a)) := hg.1; have h40 : σ.tmps.getD 40 undef = .string (strN (mB a)) := hg.2.1; unfold Runs execOp; simp [Act.eval, h38, h40, go_sem], rfl⟩)) ?_
  refine LinL.step (s := (.val (.bool true))) [(36, some 5), (41, some 0)] rfl (by kernel_rfl) (op_runs rfl fun σ w' hx hg => ⟨_, runs_pick_t (ρ := σ.eval) (w := w') (.tmp 36) (.tmp 41) (.const (.bool false)) rfl hg.1 hg.2.1, rfl⟩) ?_
  refine LinL.step (s := (.val (.bool true))) [(42, some 0)] rfl (by kernel_rfl) (op_copy 42 0 (.val (.bool true)) rfl (.inl rfl) rfl) ?_
  refine LinL.step (s := (.val (.int .i64 (mE a : Nat)))) [(6, none), (43, some 0)] rfl (by kernel_rfl) (op_yes (reads := [(6, none)]) 24 43 0 true rfl rfl rfl (op_out 6 (.int .i64 (mE a : Nat)) rfl (.inl rfl) rfl)) ?_
  refine LinL.step (s := (.val (.int .i64 (mE a : Nat)))) [(8, none), (43, some 1)] rfl (by kernel_rfl) (op_yes (reads := [(8, none)]) 24 43 1 true rfl rfl rfl (op_out 8 (.int .i64 (mE a : Nat)) rfl (.inl rfl) rfl)) ?_
  refine LinL.step (s := (.val (.bool true))) [(44, some 1), (45, some 0), (43, some 2)] rfl (by kernel_rfl) (op_yes (reads := [(44, some 1), (45, some 0)]) 24 43 2 true rfl rfl rfl (op_runs rfl fun σ w' hx hg => ⟨(.bool true), by have h44 : σ.tmps.getD 44 undef = .int .i64 (mE a : Nat) := hg.1; have h45 : σ.tmps.getD 45 undef = .int .i64 (mE a : Nat) := hg.2.1; unfold Runs execOp; simp [Act.eval, h44, h45, go_sem], rfl⟩)) ?_
  refine LinL.step (s := (.val (.bool true))) [(43, some 3), (46, some 0)] rfl (by kernel_rfl) (op_runs rfl fun σ w' hx hg => ⟨_, runs_pick_t (ρ := σ.eval) (w := w') (.tmp 43) (.tmp 46) (.const (.bool false)) rfl hg.1 hg.2.1, rfl⟩) ?_
  refine LinL.step (s := (.val (.bool true))) [(47, some 0)] rfl (by kernel_rfl) (op_copy 47 0 (.val (.bool true)) rfl (.inl rfl) rfl) ?_
  refine LinL.step (s := (.val (.agg (mRow a u).toArray))) [(2, none), (48, some 0)] rfl (by kernel_rfl) (op_yes (reads := [(2, none)]) 29 48 0 true rfl rfl rfl (op_runs rfl fun σ w' hx hg => ⟨_, runs_loadN (ρ := σ.eval) (w := w') (us := mRow a u) Try.stMsg (.tmp 2) rfl hg.1 (f1.ext hx) rfl mself_at, rfl⟩)) ?_
  refine LinL.step (s := (Sp.msg a)) [(49, some 0), (48, some 1)] rfl (by kernel_rfl) (op_yes (reads := [(49, some 0)]) 29 48 1 true rfl rfl rfl (op_calls 16 #[(.tmp 49)] #[29] (fun σ => #[.agg (mRow a u).toArray]) rfl rfl (fun _ _ => rfl) fun σ w' hx hg => ⟨by have h49 : σ.tmps.getD 49 undef = .agg (mRow a u).toArray := hg.1; simp only [List.map_toArray, List.map_cons, List.map_nil, Act.eval, h49], mcopyR (d := a) (u := u) (s1.ext TxR.stays hx) hfew.out⟩)) ?_
  refine LinL.step (s := (.val (.agg (mRow a u).toArray))) [(2, none), (48, some 2)] rfl (by kernel_rfl) (op_yes (reads := [(2, none)]) 29 48 2 true rfl rfl rfl (op_runs rfl fun σ w' hx hg => ⟨_, runs_loadN (ρ := σ.eval) (w := w') (us := mRow a u) Try.stMsg (.tmp 2) rfl hg.1 (f1.ext hx) rfl mself_at, rfl⟩)) ?_
  refine LinL.step (s := (.val (.bool true))) [(50, some 1), (51, some 0), (48, some 3)] rfl (by kernel_rfl) (op_yes (reads := [(50, some 1), (51, some 0)]) 29 48 3 true rfl rfl rfl (op_calls 14 #[(.tmp 50), (.tmp 51)] #[29, 29] (fun σ => #[σ.tmps.getD 50 undef, .agg (mRow a u).toArray]) rfl rfl (fun _ _ => rfl) fun σ w' hx hg => ⟨by have h51 : σ.tmps.getD 51 undef = .agg (mRow a u).toArray := hg.2.1; simp only [List.map_toArray, List.map_cons, List.map_nil, Act.eval, h51], msameSpR (d := a) (u := u) hg.1 (s1.ext TxR.stays hx)⟩)) ?_
  refine LinL.step (s := (.val (.bool true))) [(48, some 4), (52, some 0)] rfl (by kernel_rfl) (op_runs rfl fun σ w' hx hg => ⟨_, runs_pick_t (ρ := σ.eval) (w := w') (.tmp 48) (.tmp 52) (.const (.bool false)) rfl hg.1 hg.2.1, rfl⟩) ?_
  refine LinL.step (s := (.val (.bool true))) [(53, some 0)] rfl (by kernel_rfl) (op_copy 53 0 (.val (.bool true)) rfl (.inr rfl) rfl) ?_
  intro wN hxN
  simp only [Fin', Sp.msg, List.reverse_cons, List.reverse_nil, List.nil_append, List.cons_append, List.drop_zero, List.take_succ_cons, List.take_zero]
  intro q50 hq50
  simp only [Act.put, List.setIfInBounds_toArray, List.set_cons_zero, List.set_cons_succ]
  replace hX := hX.trans hxN
  go_wp2
  go_ret
  exact Keep.intro ⟨rfl, hX⟩

set_option maxRecDepth 100000 in
theorem msgTells_lifted (os : Os) (started : os.Started) (H : Type) (enc : TypeId × Value → H) :
    ReturnsInHanded {} Try.checked os 4 .any (Rows.msgTellsSpec.pre6 enc Try.prog Try.f4 Rows.msgTellsRow.domain false) (Rows.msgTellsSpec.post enc Try.prog Try.f4 false true false false) := by
  refine law_lifted (s := Rows.msgTellsSpec) (conds := Rows.msgTellsRow.domain) Try.func4 (by kernel_rfl) rfl (fun H ds h => by
      rw [show Try.f4.params.size = 2 from rfl] at h
      match ds, h with
      | [d0, d1], _ => rfl) rfl rfl (by decide +kernel) os started H enc
    (ChangeSpec.witness6 (enc := enc) (C := Try.checked) false ⟨#[], #[.agg #[.int .i64 0, .int .i64 0, .int .i64 0, .int .i64 0, .int .i64 0, .int .i64 0, .int .i64 0, .int .i64 0, .int .i64 0, .int .i64 0, .int .i64 0, .int .i64 0, .slice none 0 0], .agg #[.int .i64 0, .int .i64 0, .int .i64 0, .int .i64 0, .int .i64 0, .int .i64 0, .int .i64 0, .int .i64 0, .int .i64 0, .int .i64 0, .int .i64 0, .int .i64 0, .slice none 0 0]], []⟩ 8 (by kernel_rfl) (by kernel_rfl) (by kernel_rfl) (by kernel_rfl)) ?_
  intro W base args ds p hval hA hsz _
  have hp : Try.f4.params.toList = [29, 29] := rfl
  rw [hp] at hA hsz
  obtain ⟨v0, v1, d0, d1, p0, p1, rfl, rfl, rfl, h0, h1⟩ := trodAll_two hA
  obtain ⟨row0, m0, rfl, n0, k0⟩ := arg_Msg hsz (j := 0) rfl rfl (hval 0 29 v0 rfl rfl) h0
  obtain ⟨row1, m1, rfl, n1, k1⟩ := arg_Msg hsz (j := 1) rfl rfl (hval 1 29 v1 rfl rfl) h1
  exact msgTells_law row0 m0 row1 m1 W k0 k1

theorem msgTells_holds : Rows.MsgTellsSaid :=
  OpenClaim.holds_of_wide 4 Try.f4 rfl rfl rfl rfl rfl rfl rfl ⟨rfl, rfl, rfl, rfl, rfl⟩ rfl rfl rfl rfl rfl (by kernel_rfl) Try.func4 (by kernel_rfl)
    (of_decide_eq_true (by kernel_rfl)) (by unfold Func.isWrapper; first | (rw [if_pos (by decide +kernel)]; kernel_rfl) | (rw [if_neg (by decide +kernel)]; exact ⟨rfl, rfl⟩))
    (fun os started H enc _ => msgTells_lifted os started H enc)
#print axioms msgTells_holds

end Go.Proofs.Ytidhhmmjiflpjaa
