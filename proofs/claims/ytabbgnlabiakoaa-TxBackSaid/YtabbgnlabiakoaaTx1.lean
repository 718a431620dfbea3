/- The contracts of Less, of package tx and of the document's; two transactions compared. -/
import Derived.Test.YtabbgnlabiakoaaTx0
namespace Go.Proofs.Ytabbgnlabiakoaa
open Go.RowKit

theorem less_fee {a b : TxD} (h : (a.fee == b.fee) = false) : TxD.less a b = decide (b.fee < a.fee) := by
  rw [beq_eq_false_iff_ne] at h
  rw [TxD.less, if_pos h]
theorem less_id {a b : TxD} (h : (a.fee == b.fee) = true) : TxD.less a b = decide (a.id < b.id) := by
  rw [beq_iff_eq] at h
  rw [TxD.less, if_neg (by simpa using h)]
set_option maxRecDepth 100000 in
set_option maxHeartbeats 800000 in
theorem Less_any (a b : TxD) (w : World) : Calls Try.prog 16 #[.agg #[.int .i64 a.id, .int .i64 a.fee], .agg #[.int .i64 b.id, .int .i64 b.fee]] w fun e w' => e = .returned (.bool (TxD.less a b)) ∧ Ext w w' := by
  refine calls_keep ?_
  cases hc : (a.fee == b.fee)
  · have hl := hide_ (less_fee hc)
    go_enter Try.func16, Try.ntmps16
    go_wp2_with ((first
      | (refine w_box (.tmp 0) [.int .i64 a.id, .int .i64 a.fee] rfl rfl rfl rfl ?_; intro g1 w1 hg1 hX f1)
      | (refine w_box (.tmp 1) [.int .i64 b.id, .int .i64 b.fee] rfl rfl rfl rfl ?_; intro g2 w2 hg2 hx2 f2; replace f1 := f1.ext hx2; replace hX := hX.trans hx2; clear hx2)
      | ((try refine w_yes _ _ _ rfl rfl rfl ?_); refine w_field Try.stTx _ _ _ rfl rfl rfl (by omega) ?_)
      | ((try refine w_yes _ _ _ rfl rfl rfl ?_); refine w_fload _ rfl rfl rfl f1 rfl (agg_of (by kernel_rfl)) ?_)
      | ((try refine w_yes _ _ _ rfl rfl rfl ?_); refine w_fload _ rfl rfl rfl f2 rfl (agg_of (by kernel_rfl)) ?_)
      | fail) <;> (try simp only [Act.put, List.setIfInBounds_toArray, List.set_cons_zero, List.set_cons_succ]))
    go_ret
    exact Keep.intro ⟨by rw [hl.out]; rfl, hX⟩
  · have hl := hide_ (less_id hc)
    go_enter Try.func16, Try.ntmps16
    go_wp2_with ((first
      | (refine w_box (.tmp 0) [.int .i64 a.id, .int .i64 a.fee] rfl rfl rfl rfl ?_; intro g1 w1 hg1 hX f1)
      | (refine w_box (.tmp 1) [.int .i64 b.id, .int .i64 b.fee] rfl rfl rfl rfl ?_; intro g2 w2 hg2 hx2 f2; replace f1 := f1.ext hx2; replace hX := hX.trans hx2; clear hx2)
      | ((try refine w_yes _ _ _ rfl rfl rfl ?_); refine w_field Try.stTx _ _ _ rfl rfl rfl (by omega) ?_)
      | ((try refine w_yes _ _ _ rfl rfl rfl ?_); refine w_fload _ rfl rfl rfl f1 rfl (agg_of (by kernel_rfl)) ?_)
      | ((try refine w_yes _ _ _ rfl rfl rfl ?_); refine w_fload _ rfl rfl rfl f2 rfl (agg_of (by kernel_rfl)) ?_)
      | fail) <;> (try simp only [Act.put, List.setIfInBounds_toArray, List.set_cons_zero, List.set_cons_succ]))
    go_ret
    exact Keep.intro ⟨by rw [hl.out]; rfl, hX⟩

set_option maxRecDepth 100000 in
set_option maxHeartbeats 800000 in
theorem refLess_any (a b : TxD) (w : World) : Calls Try.prog 17 #[.agg #[.int .i64 a.id, .int .i64 a.fee], .agg #[.int .i64 b.id, .int .i64 b.fee]] w fun e w' => e = .returned (.bool (TxD.less a b)) ∧ Ext w w' := by
  refine calls_keep ?_
  cases hc : (a.fee == b.fee)
  · have hl := hide_ (less_fee hc)
    go_enter Try.func17, Try.ntmps17
    go_wp2_with ((first
      | (refine w_box (.tmp 0) [.int .i64 a.id, .int .i64 a.fee] rfl rfl rfl rfl ?_; intro g1 w1 hg1 hX f1)
      | (refine w_box (.tmp 1) [.int .i64 b.id, .int .i64 b.fee] rfl rfl rfl rfl ?_; intro g2 w2 hg2 hx2 f2; replace f1 := f1.ext hx2; replace hX := hX.trans hx2; clear hx2)
      | ((try refine w_yes _ _ _ rfl rfl rfl ?_); refine w_field Try.stTx _ _ _ rfl rfl rfl (by omega) ?_)
      | ((try refine w_yes _ _ _ rfl rfl rfl ?_); refine w_fload _ rfl rfl rfl f1 rfl (agg_of (by kernel_rfl)) ?_)
      | ((try refine w_yes _ _ _ rfl rfl rfl ?_); refine w_fload _ rfl rfl rfl f2 rfl (agg_of (by kernel_rfl)) ?_)
      | fail) <;> (try simp only [Act.put, List.setIfInBounds_toArray, List.set_cons_zero, List.set_cons_succ]))
    go_ret
    exact Keep.intro ⟨by rw [hl.out]; rfl, hX⟩
  · have hl := hide_ (less_id hc)
    go_enter Try.func17, Try.ntmps17
    go_wp2_with ((first
      | (refine w_box (.tmp 0) [.int .i64 a.id, .int .i64 a.fee] rfl rfl rfl rfl ?_; intro g1 w1 hg1 hX f1)
      | (refine w_box (.tmp 1) [.int .i64 b.id, .int .i64 b.fee] rfl rfl rfl rfl ?_; intro g2 w2 hg2 hx2 f2; replace f1 := f1.ext hx2; replace hX := hX.trans hx2; clear hx2)
      | ((try refine w_yes _ _ _ rfl rfl rfl ?_); refine w_field Try.stTx _ _ _ rfl rfl rfl (by omega) ?_)
      | ((try refine w_yes _ _ _ rfl rfl rfl ?_); refine w_fload _ rfl rfl rfl f1 rfl (agg_of (by kernel_rfl)) ?_)
      | ((try refine w_yes _ _ _ rfl rfl rfl ?_); refine w_fload _ rfl rfl rfl f2 rfl (agg_of (by kernel_rfl)) ?_)
      | fail) <;> (try simp only [Act.put, List.setIfInBounds_toArray, List.set_cons_zero, List.set_cons_succ]))
    go_ret
    exact Keep.intro ⟨by rw [hl.out]; rfl, hX⟩


/-! ### Two transactions compared -/
theorem Try.txFields : Try.prog.underlying 23 = some (.struct (Try.prog.fieldsOf 23)) := by kernel_rfl
theorem Try.txHeld : Try.prog.stoodInHeld 23 = false := by kernel_rfl
theorem Try.txGuard : Try.prog.eqGuardType Try.prog.depth 23 = false := by kernel_rfl
theorem Try.txList : (Try.prog.fieldsOf 23).toList.map (fun f => (f.name != "_", f.type, f.offset)) = [(true, 3, 0), (true, 3, 1)] := by kernel_rfl
theorem eqFields_ints {P : Program} {w : World} {ty : TypeId} (hu : P.underlying ty = some (.int .i64)) (d : Nat) (xs ys : List Int) : ∀ (fs : List Field) (k : Nat), fs.map (fun f => (f.name != "_", f.type, f.offset)) = ((List.range fs.length).map fun i => (true, ty, k + i)) → k + fs.length = xs.length → xs.length = ys.length →
    (Op.eqFields (d + 1) (xs.map (Value.int .i64)).toArray (ys.map (Value.int .i64)).toArray fs).run P w = .ok (decide (xs.drop k = ys.drop k)) w
  | [], k, _, h1, h2 => by
    simp only [List.length_nil, Nat.add_zero] at h1
    rw [List.drop_of_length_le (by omega), List.drop_of_length_le (by omega)]
    simp [Op.eqFields]
  | f :: fs, k, hf, h1, h2 => by
    rw [List.length_cons, List.range_succ_eq_map] at hf
    simp only [List.map_cons, List.map_map, Nat.add_zero] at hf
    injection hf with hf0 hfs
    injection hf0 with hn hf0
    injection hf0 with ht ho
    rw [List.length_cons] at h1
    have hk1 : k < xs.length := by omega
    have hk2 : k < ys.length := by omega
    have hne : f.name ≠ "_" := by simpa using hn
    have ih := eqFields_ints (P := P) (w := w) hu d xs ys fs (k + 1) (by rw [hfs]; congr 1; funext i; simp [Function.comp]; omega) (by omega) h2
    have hag : ∀ w : World, (isAgg ty).run P w = .ok false w := fun w => by simp [isAgg, run_underlying hu]
    have p1 : (part f.type (xs.map (Value.int .i64)).toArray f.offset).run P w = .ok (.int .i64 xs[k]) w := by
      rw [ht, ho]; unfold part; simp [hag, hk1]
    have p2 : (part f.type (ys.map (Value.int .i64)).toArray f.offset).run P w = .ok (.int .i64 ys[k]) w := by
      rw [ht, ho]; unfold part; simp [hag, hk2]
    have e1 : (Op.equalIn (d + 1) f.type (.int .i64 xs[k]) (.int .i64 ys[k])).run P w = .ok (xs[k] == ys[k]) w := by
      rw [ht]; exact run_equalIn_int w d ty .i64 .i64 xs[k] ys[k] hu
    simp only [Op.eqFields, hne, ne_eq, not_false_eq_true, if_true, Sem.run_bind, p1, p2, e1, Result.andThen_ok]
    have dx : xs.drop k = xs[k] :: xs.drop (k + 1) := List.drop_eq_getElem_cons hk1
    have dy : ys.drop k = ys[k] :: ys.drop (k + 1) := List.drop_eq_getElem_cons hk2
    rw [dx, dy]
    by_cases he : xs[k] = ys[k]
    · have hb : (xs[k] == ys[k]) = true := by rw [beq_iff_eq]; exact he
      rw [hb]
      simp only [Bool.not_true, Bool.false_eq_true, if_false, ih, he, List.cons.injEq, true_and]
    · have hb : (xs[k] == ys[k]) = false := by rw [beq_eq_false_iff_ne]; exact he
      rw [hb]
      simp only [Bool.not_false, if_true, Sem.run_pure, he, List.cons.injEq, false_and, decide_false]
section
variable {ops : Array Oper} {rest : List Oper} {o : Oper} {a : Act} {Q : Exit → Act → World → Prop} {w : World}
theorem run_txeq (t u : TxD) : (Op.equalIn 10000 23 (.agg #[.int .i64 t.id, .int .i64 t.fee]) (.agg #[.int .i64 u.id, .int .i64 u.fee])).run Try.prog w = .ok (decide (t = u)) w := by
  rw [run_equalIn_struct w 9999 23 _ _ Try.txFields Try.txHeld]
  have h := eqFields_ints (P := Try.prog) (w := w) Try.underlying3 9998 [t.id, t.fee] [u.id, u.fee] (Try.prog.fieldsOf 23).toList 0 (by rw [Try.txList]; kernel_rfl) (by kernel_rfl) rfl
  rw [show (#[Value.int .i64 t.id, .int .i64 t.fee] : Array Value) = ([t.id, t.fee].map (Value.int .i64)).toArray from rfl, show (#[Value.int .i64 u.id, .int .i64 u.fee] : Array Value) = ([u.id, u.fee].map (Value.int .i64)).toArray from rfl, h]
  cases t; cases u; simp
/-- t == u, t != u -/
theorem runs_txeq {ρ : Operand → Value} (x y : Operand) (t u : TxD) (ho : o.op = .binOp .eql 23 x y 23) (hx : ρ x = .agg #[.int .i64 t.id, .int .i64 t.fee]) (hy : ρ y = .agg #[.int .i64 u.id, .int .i64 u.fee]) : Runs Try.prog o ρ w (.bool (decide (t = u))) := by
  unfold Runs execOp
  simp only [ho, hx, hy, Sem.run_bind, run_eqGuard_agg w _ _ _ _ _ _ Try.txGuard, Result.andThen_ok, run_eql_struct, run_txeq, Sem.run_pure]
theorem runs_txne {ρ : Operand → Value} (x y : Operand) (t u : TxD) (ho : o.op = .binOp .neq 23 x y 23) (hx : ρ x = .agg #[.int .i64 t.id, .int .i64 t.fee]) (hy : ρ y = .agg #[.int .i64 u.id, .int .i64 u.fee]) : Runs Try.prog o ρ w (.bool (!decide (t = u))) := by
  unfold Runs execOp
  simp only [ho, hx, hy, Sem.run_bind, run_eqGuard_agg w _ _ _ _ _ _ Try.txGuard, Result.andThen_ok, run_neq_struct, run_txeq, Sem.run_pure]
theorem w_txeq (x y : Operand) (t u : TxD) (hgd : o.guard = none) (ho : o.op = .binOp .eql 23 x y 23) (hx : a.eval x = .agg #[.int .i64 t.id, .int .i64 t.fee]) (hy : a.eval y = .agg #[.int .i64 u.id, .int .i64 u.fee])
    (k : wpList Try.prog ops Q rest (a.put o.dst (.bool (decide (t = u)))) w) : wpList Try.prog ops Q (o :: rest) a w := wpList_runs hgd (runs_txeq x y t u ho hx hy) k
theorem w_txne (x y : Operand) (t u : TxD) (hgd : o.guard = none) (ho : o.op = .binOp .neq 23 x y 23) (hx : a.eval x = .agg #[.int .i64 t.id, .int .i64 t.fee]) (hy : a.eval y = .agg #[.int .i64 u.id, .int .i64 u.fee])
    (k : wpList Try.prog ops Q rest (a.put o.dst (.bool (!decide (t = u)))) w) : wpList Try.prog ops Q (o :: rest) a w := wpList_runs hgd (runs_txne x y t u ho hx hy) k
end
end Go.Proofs.Ytabbgnlabiakoaa
