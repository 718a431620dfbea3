/- The statement TxTells: which transactions can be, their bytes, and which of two goes ahead are the document's. No condition. -/
import Derived.Test.YtabbgnlabiakoaaXNames
namespace Go.Proofs.Ytabbgnlabiakoaa
open Go.RowKit Go.ChangeShapes Go.WideShapes Go.ChangeAt

theorem retR {f : FuncId} {args : Array Value} {w : World} {u : Value} (h : Calls Try.prog f args w fun e w' => e = .returned u ∧ Ext w w') : Calls Try.prog f args w fun e w' => ∃ v', e = .returned v' ∧ Ext w w' ∧ Sp.p (.val u) v' w' := by
  refine h.mono ?_
  rintro e w' ⟨rfl, hx⟩
  exact ⟨_, rfl, hx, rfl⟩

set_option maxRecDepth 100000 in
set_option maxHeartbeats 1600000 in
theorem txTells_law (a b : TxD) (W : World) :
    Calls Try.prog 4 #[.agg #[.int .i64 a.id, .int .i64 a.fee], .agg #[.int .i64 b.id, .int .i64 b.fee]] W fun e w' => e = .returned (.bool true) ∧ Ext W w' := by
  refine calls_keep ?_
  go_enter Try.func4, Try.ntmps4
  go_wp2_with ((first
    | (refine w_box (.tmp 0) [.int .i64 a.id, .int .i64 a.fee] rfl rfl rfl rfl ?_; intro g1 w1 hg1 hX f1)
    | (refine w_box (.tmp 1) [.int .i64 b.id, .int .i64 b.fee] rfl rfl rfl rfl ?_; intro g2 w2 hg2 hx f2; replace f1 := f1.ext hx; replace hX := hX.trans hx; clear hx)
    | (go_at_call 12; refine (TBytes_any a _).mono ?_; rintro e w3 ⟨v5, rfl, o5, hx⟩; have b5 := o5.byt; replace f1 := f1.ext hx; replace f2 := f2.ext hx; replace hX := hX.trans hx; clear o5 hx)
    | (go_at_call 13; refine (refTBytes_any a _).mono ?_; rintro e w4 ⟨v7, rfl, o7, hx⟩; have b7 := o7.byt; replace b5 := b5.ext hx; replace f1 := f1.ext hx; replace f2 := f2.ext hx; replace hX := hX.trans hx; clear o7 hx)
    | (refine w_aload Try.stTx _ rfl rfl rfl f1 rfl ?_)
    | fail) <;> (try simp only [Act.put, List.setIfInBounds_toArray, List.set_cons_zero, List.set_cons_succ]))
  refine wp_region_phx (by kernel_rfl) ?_; intro wd hxd; replace f1 := f1.ext hxd; replace f2 := f2.ext hxd; replace b5 := b5.ext hxd; replace b7 := b7.ext hxd; replace hX := hX.trans hxd
  refine Ph.rest 0 30 (by kernel_rfl) ?_
  refine LinL.step (s := (.val (.bool true))) [] rfl (by kernel_rfl) (op_calls 11 #[] #[] (fun σ => #[]) rfl rfl (fun _ _ => rfl) fun σ w' hx hg => ⟨by simp only [List.map_toArray, List.map_nil], aliveR w'⟩) ?_
  refine LinL.step (s := (.val (.bool true))) [(19, some 0)] rfl (by kernel_rfl) (op_copy 19 0 (.val (.bool true)) rfl (.inl rfl) rfl) ?_
  refine LinL.step (s := (.val (.agg #[.int .i64 a.id, .int .i64 a.fee]))) [(2, none), (20, some 0)] rfl (by kernel_rfl) (op_yes (reads := [(2, none)]) 1 20 0 true rfl rfl rfl (op_runs rfl fun σ w' hx hg => ⟨_, runs_aload (ρ := σ.eval) (w := w') Try.stTx (.tmp 2) rfl hg.1 (f1.ext hx) rfl, rfl⟩)) ?_
  refine LinL.step (s := (.val (.bool (decide a.Right)))) [(21, some 0), (20, some 1)] rfl (by kernel_rfl) (op_yes (reads := [(21, some 0)]) 1 20 1 true rfl rfl rfl (op_calls 14 #[(.tmp 21)] #[23] (fun σ => #[.agg #[.int .i64 a.id, .int .i64 a.fee]]) rfl rfl (fun _ _ => rfl) fun σ w' hx hg => ⟨by have h21 : σ.tmps.getD 21 undef = .agg #[.int .i64 a.id, .int .i64 a.fee] := hg.1; simp only [List.map_toArray, List.map_cons, List.map_nil, Act.eval, h21], retR (Right_any a _)⟩)) ?_
  refine LinL.step (s := (.val (.agg #[.int .i64 a.id, .int .i64 a.fee]))) [(2, none), (20, some 2)] rfl (by kernel_rfl) (op_yes (reads := [(2, none)]) 1 20 2 true rfl rfl rfl (op_runs rfl fun σ w' hx hg => ⟨_, runs_aload (ρ := σ.eval) (w := w') Try.stTx (.tmp 2) rfl hg.1 (f1.ext hx) rfl, rfl⟩)) ?_
  refine LinL.step (s := (.val (.bool (decide a.Right)))) [(23, some 0), (20, some 3)] rfl (by kernel_rfl) (op_yes (reads := [(23, some 0)]) 1 20 3 true rfl rfl rfl (op_calls 15 #[(.tmp 23)] #[23] (fun σ => #[.agg #[.int .i64 a.id, .int .i64 a.fee]]) rfl rfl (fun _ _ => rfl) fun σ w' hx hg => ⟨by have h23 : σ.tmps.getD 23 undef = .agg #[.int .i64 a.id, .int .i64 a.fee] := hg.1; simp only [List.map_toArray, List.map_cons, List.map_nil, Act.eval, h23], retR (refRight_any a _)⟩)) ?_
  refine LinL.step (s := (.val (.bool true))) [(22, some 2), (24, some 0), (20, some 4)] rfl (by kernel_rfl) (op_yes (reads := [(22, some 2), (24, some 0)]) 1 20 4 true rfl rfl rfl (op_runs rfl fun σ w' hx hg => ⟨(.bool true), by have h22 : σ.tmps.getD 22 undef = .bool (decide a.Right) := hg.1; have h24 : σ.tmps.getD 24 undef = .bool (decide a.Right) := hg.2.1; unfold Runs execOp; simp [Act.eval, h22, h24, go_sem], rfl⟩)) ?_
  refine LinL.step (s := (.val (.bool true))) [(20, some 5), (25, some 0)] rfl (by kernel_rfl) (op_runs rfl fun σ w' hx hg => ⟨_, runs_pick_t (ρ := σ.eval) (w := w') (.tmp 20) (.tmp 25) (.const (.bool false)) rfl hg.1 hg.2.1, rfl⟩) ?_
  refine LinL.step (s := (.val (.bool true))) [(26, some 0)] rfl (by kernel_rfl) (op_copy 26 0 (.val (.bool true)) rfl (.inl rfl) rfl) ?_
  refine LinL.step (s := (.val (v5))) [(5, none), (27, some 0)] rfl (by kernel_rfl) (op_yes (reads := [(5, none)]) 8 27 0 true rfl rfl rfl (op_out 5 (v5) rfl (.inl rfl) rfl)) ?_
  refine LinL.step (s := (.val (.string (strN (tB a))))) [(28, some 0), (27, some 1)] rfl (by kernel_rfl) (op_yes (reads := [(28, some 0)]) 8 27 1 true rfl rfl rfl (op_runs rfl fun σ w' hx hg => ⟨_, runs_str (ρ := σ.eval) (w := w') (.tmp 28) rfl hg.1 (b5.ext hx), rfl⟩)) ?_
  refine LinL.step (s := (.val (v7))) [(7, none), (27, some 2)] rfl (by kernel_rfl) (op_yes (reads := [(7, none)]) 8 27 2 true rfl rfl rfl (op_out 7 (v7) rfl (.inl rfl) rfl)) ?_
  refine LinL.step (s := (.val (.string (strN (tB a))))) [(30, some 0), (27, some 3)] rfl (by kernel_rfl) (op_yes (reads := [(30, some 0)]) 8 27 3 true rfl rfl rfl (op_runs rfl fun σ w' hx hg => ⟨_, runs_str (ρ := σ.eval) (w := w') (.tmp 30) rfl hg.1 (b7.ext hx), rfl⟩)) ?_
  refine LinL.step (s := (.val (.bool true))) [(29, some 2), (31, some 0), (27, some 4)] rfl (by kernel_rfl) (op_yes (reads := [(29, some 2), (31, some 0)]) 8 27 4 true rfl rfl rfl (op_runs rfl fun σ w' hx hg => ⟨(.bool true), by have h29 : σ.tmps.getD 29 undef = .string (strN (tB a)) := hg.1; have h31 : σ.tmps.getD 31 undef = .string (strN (tB a)) := hg.2.1; unfold Runs execOp; simp [Act.eval, h29, h31, go_sem], rfl⟩)) ?_
  refine LinL.step (s := (.val (.bool true))) [(27, some 5), (32, some 0)] rfl (by kernel_rfl) (op_runs rfl fun σ w' hx hg => ⟨_, runs_pick_t (ρ := σ.eval) (w := w') (.tmp 27) (.tmp 32) (.const (.bool false)) rfl hg.1 hg.2.1, rfl⟩) ?_
  refine LinL.step (s := (.val (.bool true))) [(33, some 0)] rfl (by kernel_rfl) (op_copy 33 0 (.val (.bool true)) rfl (.inl rfl) rfl) ?_
  refine LinL.step (s := (.val (.int .i64 (tE a : Nat)))) [(6, none), (34, some 0)] rfl (by kernel_rfl) (op_yes (reads := [(6, none)]) 15 34 0 true rfl rfl rfl (op_out 6 (.int .i64 (tE a : Nat)) rfl (.inl rfl) rfl)) ?_
  refine LinL.step (s := (.val (.int .i64 (tE a : Nat)))) [(8, none), (34, some 1)] rfl (by kernel_rfl) (op_yes (reads := [(8, none)]) 15 34 1 true rfl rfl rfl (op_out 8 (.int .i64 (tE a : Nat)) rfl (.inl rfl) rfl)) ?_
  refine LinL.step (s := (.val (.bool true))) [(35, some 1), (36, some 0), (34, some 2)] rfl (by kernel_rfl) (op_yes (reads := [(35, some 1), (36, some 0)]) 15 34 2 true rfl rfl rfl (op_runs rfl fun σ w' hx hg => ⟨(.bool true), by have h35 : σ.tmps.getD 35 undef = .int .i64 (tE a : Nat) := hg.1; have h36 : σ.tmps.getD 36 undef = .int .i64 (tE a : Nat) := hg.2.1; unfold Runs execOp; simp [Act.eval, h35, h36, go_sem], rfl⟩)) ?_
  refine LinL.step (s := (.val (.bool true))) [(34, some 3), (37, some 0)] rfl (by kernel_rfl) (op_runs rfl fun σ w' hx hg => ⟨_, runs_pick_t (ρ := σ.eval) (w := w') (.tmp 34) (.tmp 37) (.const (.bool false)) rfl hg.1 hg.2.1, rfl⟩) ?_
  refine LinL.step (s := (.val (.bool true))) [(38, some 0)] rfl (by kernel_rfl) (op_copy 38 0 (.val (.bool true)) rfl (.inl rfl) rfl) ?_
  refine LinL.step (s := (.val (.agg #[.int .i64 a.id, .int .i64 a.fee]))) [(2, none), (39, some 0)] rfl (by kernel_rfl) (op_yes (reads := [(2, none)]) 20 39 0 true rfl rfl rfl (op_runs rfl fun σ w' hx hg => ⟨_, runs_aload (ρ := σ.eval) (w := w') Try.stTx (.tmp 2) rfl hg.1 (f1.ext hx) rfl, rfl⟩)) ?_
  refine LinL.step (s := (.val (.agg #[.int .i64 b.id, .int .i64 b.fee]))) [(3, none), (39, some 1)] rfl (by kernel_rfl) (op_yes (reads := [(3, none)]) 20 39 1 true rfl rfl rfl (op_runs rfl fun σ w' hx hg => ⟨_, runs_aload (ρ := σ.eval) (w := w') Try.stTx (.tmp 3) rfl hg.1 (f2.ext hx) rfl, rfl⟩)) ?_
  refine LinL.step (s := (.val (.bool (TxD.less a b)))) [(40, some 1), (41, some 0), (39, some 2)] rfl (by kernel_rfl) (op_yes (reads := [(40, some 1), (41, some 0)]) 20 39 2 true rfl rfl rfl (op_calls 16 #[(.tmp 40), (.tmp 41)] #[23, 23] (fun σ => #[.agg #[.int .i64 a.id, .int .i64 a.fee], .agg #[.int .i64 b.id, .int .i64 b.fee]]) rfl rfl (fun _ _ => rfl) fun σ w' hx hg => ⟨by have h40 : σ.tmps.getD 40 undef = .agg #[.int .i64 a.id, .int .i64 a.fee] := hg.1; have h41 : σ.tmps.getD 41 undef = .agg #[.int .i64 b.id, .int .i64 b.fee] := hg.2.1; simp only [List.map_toArray, List.map_cons, List.map_nil, Act.eval, h40, h41], retR (Less_any a b _)⟩)) ?_
  refine LinL.step (s := (.val (.agg #[.int .i64 a.id, .int .i64 a.fee]))) [(2, none), (39, some 3)] rfl (by kernel_rfl) (op_yes (reads := [(2, none)]) 20 39 3 true rfl rfl rfl (op_runs rfl fun σ w' hx hg => ⟨_, runs_aload (ρ := σ.eval) (w := w') Try.stTx (.tmp 2) rfl hg.1 (f1.ext hx) rfl, rfl⟩)) ?_
  refine LinL.step (s := (.val (.agg #[.int .i64 b.id, .int .i64 b.fee]))) [(3, none), (39, some 4)] rfl (by kernel_rfl) (op_yes (reads := [(3, none)]) 20 39 4 true rfl rfl rfl (op_runs rfl fun σ w' hx hg => ⟨_, runs_aload (ρ := σ.eval) (w := w') Try.stTx (.tmp 3) rfl hg.1 (f2.ext hx) rfl, rfl⟩)) ?_
  refine LinL.step (s := (.val (.bool (TxD.less a b)))) [(43, some 1), (44, some 0), (39, some 5)] rfl (by kernel_rfl) (op_yes (reads := [(43, some 1), (44, some 0)]) 20 39 5 true rfl rfl rfl (op_calls 17 #[(.tmp 43), (.tmp 44)] #[23, 23] (fun σ => #[.agg #[.int .i64 a.id, .int .i64 a.fee], .agg #[.int .i64 b.id, .int .i64 b.fee]]) rfl rfl (fun _ _ => rfl) fun σ w' hx hg => ⟨by have h43 : σ.tmps.getD 43 undef = .agg #[.int .i64 a.id, .int .i64 a.fee] := hg.1; have h44 : σ.tmps.getD 44 undef = .agg #[.int .i64 b.id, .int .i64 b.fee] := hg.2.1; simp only [List.map_toArray, List.map_cons, List.map_nil, Act.eval, h43, h44], retR (refLess_any a b _)⟩)) ?_
  refine LinL.step (s := (.val (.bool true))) [(42, some 3), (45, some 0), (39, some 6)] rfl (by kernel_rfl) (op_yes (reads := [(42, some 3), (45, some 0)]) 20 39 6 true rfl rfl rfl (op_runs rfl fun σ w' hx hg => ⟨(.bool true), by have h42 : σ.tmps.getD 42 undef = .bool (TxD.less a b) := hg.1; have h45 : σ.tmps.getD 45 undef = .bool (TxD.less a b) := hg.2.1; unfold Runs execOp; simp [Act.eval, h42, h45, go_sem], rfl⟩)) ?_
  refine LinL.step (s := (.val (.bool true))) [(39, some 7), (46, some 0)] rfl (by kernel_rfl) (op_runs rfl fun σ w' hx hg => ⟨_, runs_pick_t (ρ := σ.eval) (w := w') (.tmp 39) (.tmp 46) (.const (.bool false)) rfl hg.1 hg.2.1, rfl⟩) ?_
  refine LinL.step (s := (.val (.bool true))) [(47, some 0)] rfl (by kernel_rfl) (op_copy 47 0 (.val (.bool true)) rfl (.inr rfl) rfl) ?_
  intro wN hxN
  simp only [Fin', List.reverse_cons, List.reverse_nil, List.nil_append, List.cons_append, List.drop_zero, List.take_succ_cons, List.take_zero]
  simp only [Act.put, List.setIfInBounds_toArray, List.set_cons_zero, List.set_cons_succ]
  replace hX := hX.trans hxN
  go_wp2
  go_ret
  exact Keep.intro ⟨rfl, hX⟩

set_option maxRecDepth 100000 in
theorem txTells_lifted (os : Os) (started : os.Started) (H : Type) (enc : TypeId × Value → H) :
    ReturnsInHanded {} Try.checked os 4 .any (Rows.txTellsSpec.pre6 enc Try.prog Try.f4 Rows.txTellsRow.domain false) (Rows.txTellsSpec.post enc Try.prog Try.f4 false true false false) := by
  refine law_lifted (s := Rows.txTellsSpec) (conds := Rows.txTellsRow.domain) Try.func4 (by kernel_rfl) rfl (fun H ds h => by
      rw [show Try.f4.params.size = 2 from rfl] at h
      match ds, h with
      | [d0, d1], _ => rfl) rfl rfl (by decide +kernel) os started H enc
    (ChangeSpec.witness6 (enc := enc) (C := Try.checked) false ⟨#[], #[.agg #[.int .i64 0, .int .i64 0], .agg #[.int .i64 0, .int .i64 0]], []⟩ 8 (by kernel_rfl) (by kernel_rfl) (by kernel_rfl) (by kernel_rfl)) ?_
  intro W base args ds p hval hA hsz _
  have hp : Try.f4.params.toList = [23, 23] := rfl
  rw [hp] at hA hsz
  obtain ⟨v0, v1, d0, d1, p0, p1, rfl, rfl, rfl, h0, h1⟩ := trodAll_two hA
  obtain ⟨row0, t0, rfl, n0, rfl, a0⟩ := arg_Tx hsz (j := 0) rfl rfl (hval 0 23 v0 rfl rfl) h0
  obtain ⟨row1, t1, rfl, n1, rfl, a1⟩ := arg_Tx hsz (j := 1) rfl rfl (hval 1 23 v1 rfl rfl) h1
  exact txTells_law t0 t1 W

theorem txTells_holds : Rows.TxTellsSaid :=
  OpenClaim.holds_of_wide 4 Try.f4 rfl rfl rfl rfl rfl rfl rfl ⟨rfl, rfl, rfl, rfl, rfl⟩ rfl rfl rfl rfl rfl (by kernel_rfl) Try.func4 (by kernel_rfl)
    (of_decide_eq_true (by kernel_rfl)) (by unfold Func.isWrapper; first | (rw [if_pos (by decide +kernel)]; kernel_rfl) | (rw [if_neg (by decide +kernel)]; exact ⟨rfl, rfl⟩))
    (fun os started H enc _ => txTells_lifted os started H enc)
#print axioms txTells_holds

end Go.Proofs.Ytabbgnlabiakoaa
