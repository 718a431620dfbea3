/- Steps for messages and arrays of numbers; within, valueCanBe and nums of package msg. -/
import Derived.Test.YtgbhbifdfcfamaaMRec
namespace Go.Proofs.Ytgbhbifdfcfamaa
set_option maxRecDepth 100000
open Go.RowKit

section
variable {ops : Array Oper} {rest : List Oper} {o : Oper} {a : Act} {Q : Exit → Act → World → Prop} {w : World}
theorem runs_mbuild {ρ : Operand → Value} {ps : Array (Nat × Operand)} (us : List Value) (ho : o.op = .build 48 ps)
    (hps : ((ps.toList.map fun x => (x.1, ρ x.2)).foldl (fun acc p => acc.set p.1 p.2) mZero) = us) (hone : ∀ p ∈ ps.toList, p.1 < 6 ∧ (ρ p.2).cells = #[ρ p.2]) : Runs Try.prog o ρ w (.agg us.toArray) := by
  have hb := run_mbuild (w := w) (ps.toList.map fun x => (x.1, ρ x.2)) (ps.map fun x => (x.1, ρ x.2)) (by simp) (fun p hp => by
    obtain ⟨q, hq, rfl⟩ := List.mem_map.1 hp
    exact hone q hq) us hps
  unfold Runs execOp
  rw [ho]
  show ((do pure (.value (← Instr.build 48 (ps.map fun x => (x.1, ρ x.2)))) : Sem Next)).run Try.prog w = _
  rw [Sem.run_bind, hb]
  rfl
theorem w_mbuild {ps : Array (Nat × Operand)} (us : List Value) (hgd : o.guard = none) (ho : o.op = .build 48 ps)
    (hps : ((ps.toList.map fun x => (x.1, a.eval x.2)).foldl (fun acc p => acc.set p.1 p.2) mZero) = us) (hone : ∀ p ∈ ps.toList, p.1 < 6 ∧ (a.eval p.2).cells = #[a.eval p.2])
    (k : wpList Try.prog ops Q rest (a.put o.dst (.agg us.toArray)) w) : wpList Try.prog ops Q (o :: rest) a w := wpList_runs hgd (runs_mbuild us ho hps hone) k
/-- Six numbers written out. -/
theorem w_6build {ps : Array (Nat × Operand)} (us : List Value) (hgd : o.guard = none) (ho : o.op = .build 127 ps)
    (hps : ((ps.toList.map fun x => (x.1, a.eval x.2)).foldl (fun acc p => acc.set p.1 p.2) [.int .i64 0, .int .i64 0, .int .i64 0, .int .i64 0, .int .i64 0, .int .i64 0]) = us) (hone : ∀ p ∈ ps.toList, p.1 < 6 ∧ (a.eval p.2).cells = #[a.eval p.2])
    (k : wpList Try.prog ops Q rest (a.put o.dst (.agg us.toArray)) w) : wpList Try.prog ops Q (o :: rest) a w := by
  refine wpList_runs hgd ?_ k
  obtain ⟨i0, hi, hz, hs⟩ := Try.ag6.info
  have hfill := fill_st (ps.toList.map fun x => (x.1, a.eval x.2)) [.int .i64 0, .int .i64 0, .int .i64 0, .int .i64 0, .int .i64 0, .int .i64 0] (fun i => some (i * 1, 1)) fun p hp => by
    obtain ⟨q, hq, rfl⟩ := List.mem_map.1 hp
    obtain ⟨h1, h2⟩ := hone q hq
    exact ⟨by simp, h1, h2⟩
  rw [hps] at hfill
  have hpl : (ps.map fun x => (x.1, a.eval x.2)).toList = ps.toList.map fun x => (x.1, a.eval x.2) := by simp
  unfold Runs execOp
  rw [ho]
  show ((do pure (.value (← Instr.build 127 (ps.map fun x => (x.1, a.eval x.2)))) : Sem Next)).run Try.prog w = _
  have hb : (Instr.build 127 (ps.map fun x => (x.1, a.eval x.2))).run Try.prog w = .ok (.agg us.toArray) w := by
    unfold Instr.build
    have hzv : (zeroValue 127).run Try.prog w = .ok (.agg [Value.int .i64 0, .int .i64 0, .int .i64 0, .int .i64 0, .int .i64 0, .int .i64 0].toArray) w := by simp [zeroValue, typeInfo, hi, hz]
    rw [Sem.run_bind, hzv, Result.andThen_ok]
    dsimp only
    rw [Sem.run_bind, run_underlying Try.underlying127, Result.andThen_ok]
    simp only [Sem.run_bind, Try.sizeOf3, Result.andThen_ok, Value.cells, hpl]
    rw [hfill]
    rfl
  rw [Sem.run_bind, hb]
  rfl
/-- l[:], l a variable that holds an array of numbers. -/
theorem w_aslice {n : Nat} {t : TypeId} (hu : Try.prog.underlying t = some (.array n 3)) (x : Operand) {g : Nat} {l : List Int} (hgd : o.guard = none) (ho : o.op = .slice t x none none none) (hx : a.eval x = .pointer (some ⟨g, 0, none⟩)) (h : Fs w g (i64s l)) (hl : l.length = n) (hn : n ≤ 1000)
    (k : ∀ v, Ints w v l → wpList Try.prog ops Q rest (a.put o.dst v) w) : wpList Try.prog ops Q (o :: rest) a w := by
  have hi : Ints w (.slice (some ⟨g, 0, none⟩) n n) l := by
    refine ⟨some ⟨g, 0, none⟩, n, by rw [i64s_length, hl], by rw [i64s_length, hl]; exact Nat.le_refl _, by unfold maxLen; omega, fun j u hj => ⟨_, rfl, ?_⟩⟩
    rw [add_zero_off]; exact h.cell hj
  refine wpList_runs hgd ?_ (k _ hi)
  unfold Runs execOp
  simp [ho, hx, Instr.sliceAt, run_underlying hu, Instr.sureAddr, Instr.sliceBounds, Try.sizeOf3]
  exact fun _ => add_zero_off g 0
theorem eqItems_ints {P : Program} {w : World} {ty : TypeId} (hu : P.underlying ty = some (.int .i64)) (hc : P.cellsOf ty = 1) (d : Nat) (xs ys : List Int) (hl : xs.length = ys.length) : ∀ (m k : Nat), k + m = xs.length →
    (Op.eqItems (d + 1) ty (P.cellsOf ty) (xs.map (Value.int .i64)).toArray (ys.map (Value.int .i64)).toArray (List.range' k m)).run P w = .ok (decide (xs.drop k = ys.drop k)) w
  | 0, k, h1 => by
    rw [List.drop_of_length_le (by omega), List.drop_of_length_le (by omega)]
    simp [Op.eqItems]
  | m + 1, k, h1 => by
    have hk1 : k < xs.length := by omega
    have hk2 : k < ys.length := by omega
    have ih := eqItems_ints (P := P) (w := w) hu hc d xs ys hl m (k + 1) (by omega)
    have hag : ∀ w : World, (isAgg ty).run P w = .ok false w := fun w => by simp [isAgg, run_underlying hu]
    have p1 : (part ty (xs.map (Value.int .i64)).toArray (k * P.cellsOf ty)).run P w = .ok (.int .i64 xs[k]) w := by
      rw [hc]; unfold part; simp [hag, hk1]
    have p2 : (part ty (ys.map (Value.int .i64)).toArray (k * P.cellsOf ty)).run P w = .ok (.int .i64 ys[k]) w := by
      rw [hc]; unfold part; simp [hag, hk2]
    have e1 : (Op.equalIn (d + 1) ty (.int .i64 xs[k]) (.int .i64 ys[k])).run P w = .ok (xs[k] == ys[k]) w := run_equalIn_int w d ty .i64 .i64 xs[k] ys[k] hu
    rw [List.range'_succ]
    simp only [Op.eqItems, Sem.run_bind, p1, p2, e1, Result.andThen_ok]
    have dx : xs.drop k = xs[k] :: xs.drop (k + 1) := List.drop_eq_getElem_cons hk1
    have dy : ys.drop k = ys[k] :: ys.drop (k + 1) := List.drop_eq_getElem_cons hk2
    rw [dx, dy]
    by_cases he : xs[k] = ys[k]
    · have hb : (xs[k] == ys[k]) = true := by rw [beq_iff_eq]; exact he
      rw [hb]
      simp only [Bool.not_true, Bool.false_eq_true, if_false, ih, he, List.cons.injEq, true_and]
    · have hb : (xs[k] == ys[k]) = false := by rw [beq_eq_false_iff_ne]; exact he
      rw [hb]
      simp only [Bool.not_false, if_true, Sem.run_pure, he, List.cons.injEq, false_and, decide_false]
theorem Try.sixGuard : Try.prog.eqGuardType Try.prog.depth 127 = false := by kernel_rfl
/-- l == m, arrays of six numbers. -/
theorem runs_sixeq {ρ : Operand → Value} (x y : Operand) (l m : List Int) (ho : o.op = .binOp .eql 127 x y 127) (hx : ρ x = .agg (i64s l).toArray) (hy : ρ y = .agg (i64s m).toArray) (hl : l.length = 6) (hm : m.length = 6) {b : Bool} (hb : decide (l = m) = b) : Runs Try.prog o ρ w (.bool b) := by
  obtain ⟨i, hi⟩ := info_of_underlying Try.underlying3
  have hq : (Op.equalIn 10000 127 (.agg (i64s l).toArray) (.agg (i64s m).toArray)).run Try.prog w = .ok (decide (l = m)) w := by
    rw [run_equalIn_array w 9999 _ _ Try.underlying127 hi, List.range_eq_range']
    exact eqItems_ints Try.underlying3 (by kernel_rfl) 9998 l m (by omega) 6 0 (by omega)
  subst hb
  unfold Runs execOp
  simp only [ho, hx, hy, Sem.run_bind, run_eqGuard_agg w _ _ _ _ _ _ Try.sixGuard, Result.andThen_ok, run_eql_struct, hq, Sem.run_pure]
end

set_option maxRecDepth 100000 in
set_option maxHeartbeats 800000 in
theorem within_any (n a b : Int) (w : World) : Calls Try.prog 62 #[.int .i64 n, .int .i64 a, .int .i64 b] w fun e w' => e = .returned (.bool (decide (In a b n))) ∧ Ext w w' := by
  refine calls_keep ?_
  by_cases h1 : a ≤ n
  · have t1 : decide (a ≤ n) = true := by simpa using h1
    have hdec := hide_ (show decide (In a b n) = decide (n ≤ b) from decide_eq_decide.2 ⟨fun h => h.2, fun h => ⟨h1, h⟩⟩)
    clear h1
    go_enter Try.func62, Try.ntmps62
    go_wp2
    go_ret
    exact Keep.intro ⟨by rw [hdec.out]; rfl, Ext.refl _⟩
  · have t1 : decide (a ≤ n) = false := by simpa using h1
    have hdec := hide_ (show decide (In a b n) = false from decide_eq_false fun h => h1 h.1)
    clear h1
    go_enter Try.func62, Try.ntmps62
    go_wp2
    go_ret
    exact Keep.intro ⟨by rw [hdec.out]; rfl, Ext.refl _⟩

theorem vOk_m1 {k v : Int} (h : v = -1) : VOk k v ↔ k = 4 ∨ k = 5 := by
  subst h
  exact ⟨fun h => by
    rcases h with h | h | h
    · exact h.2
    · omega
    · have := h.pos; omega, fun h => .inl ⟨rfl, h⟩⟩
theorem vOk_else {k v : Int} (h : v ≠ -1) : VOk k v ↔ v = 0 ∨ NmOk v := ⟨fun h' => by
    rcases h' with h' | h'
    · exact absurd h'.1 h
    · exact h', fun h' => .inr h'⟩
theorem slot_gt {n : Int} : 0 < nmS n ↔ NmOk n := by rw [← nmS_pos]; omega
set_option maxRecDepth 100000 in
set_option maxHeartbeats 800000 in
theorem value_any (k v : Int) (hv : I64 v) (w : World) : Calls Try.prog 65 #[.int .i64 k, .int .i64 v] w fun e w' => e = .returned (.bool (decide (VOk k v))) ∧ Ext w w' := by
  refine calls_keep ?_
  by_cases h0 : v = -1
  · have t0 : (v == -1) = true := by simpa using h0
    have hiff := vOk_m1 (k := k) h0
    by_cases h1 : k = 4
    · have t1 : (k == 4) = true := by simpa using h1
      have hdec := hide_ (show decide (VOk k v) = true from decide_eq_true (hiff.2 (.inl h1)))
      clear hiff h0 h1
      go_enter Try.func65, Try.ntmps65
      go_wp2
      go_ret
      exact Keep.intro ⟨by rw [hdec.out]; rfl, Ext.refl _⟩
    · have t1 : (k == 4) = false := by simpa using h1
      have hdec := hide_ (show decide (VOk k v) = (k == 5) from by
        have : VOk k v ↔ k = 5 := hiff.trans ⟨fun h => h.resolve_left h1, fun h => .inr h⟩
        exact (decide_eq_decide.2 this).trans rfl)
      clear hiff h0 h1
      go_enter Try.func65, Try.ntmps65
      go_wp2
      go_ret
      exact Keep.intro ⟨by rw [hdec.out]; rfl, Ext.refl _⟩
  · have t0 : (v == -1) = false := by simpa using h0
    have hiff := vOk_else (k := k) h0
    by_cases h1 : v = 0
    · have t1 : (v == 0) = true := by simpa using h1
      have hdec := hide_ (show decide (VOk k v) = true from decide_eq_true (hiff.2 (.inl h1)))
      clear hiff h0 h1
      go_enter Try.func65, Try.ntmps65
      go_wp2
      go_ret
      exact Keep.intro ⟨by rw [hdec.out]; rfl, Ext.refl _⟩
    · have t1 : (v == 0) = false := by simpa using h1
      have hdec := hide_ (show decide (VOk k v) = decide (0 < nmS v) from decide_eq_decide.2 (hiff.trans ((or_iff_right h1).trans slot_gt.symm)))
      clear hiff h0 h1
      go_enter Try.func65, Try.ntmps65
      go_wp2_with (first
        | (go_at_call 74; refine (Slot_any v hv.1 hv.2 _).mono ?_; rintro e w2 ⟨rfl, hX⟩)
        | fail)
      go_ret
      exact Keep.intro ⟨by rw [hdec.out]; rfl, hX⟩

set_option maxRecDepth 100000 in
set_option maxHeartbeats 800000 in
theorem nums_any (d : MsgD) (u : Value) (w : World) : Calls Try.prog 75 #[.agg (mRow d u).toArray] w fun e w' => e = .returned (.agg (i64s d.nums).toArray) ∧ Ext w w' := by
  refine calls_keep ?_
  go_enter Try.func75, Try.ntmps75
  go_wp2_with ((first
    | ((with_reducible refine at_box ?_); refine w_box _ (mRow d u) rfl rfl rfl rfl ?_; intro g1 w1 hg1 hX f1)
    | ((with_reducible refine at_alloc ?_); refine w_agalloc Try.ag6 rfl rfl ?_; intro g2 w2 hg2 hx2 f2; replace hg2 := Nat.le_trans hX.size hg2; replace f1 := f1.ext hx2; replace hX := hX.trans hx2; clear hx2)
    | ((with_reducible refine at_field ?_); (try refine w_yes _ _ _ rfl rfl rfl ?_); refine w_mfield _ _ _ rfl rfl rfl (by omega) ?_)
    | ((with_reducible refine at_sbuild ?_); refine w_6build (i64s d.nums) rfl rfl rfl (by intro p hp; simp at hp; rcases hp with rfl | rfl | rfl | rfl | rfl | rfl <;> exact ⟨by decide, rfl⟩) ?_)
    | ((with_reducible refine at_store ?_); refine w_agput Try.ag6 (us := i64s d.nums) _ _ rfl rfl rfl rfl rfl f2 rfl rfl (i64s_one _) ?_; intro w9 hm f2'; replace f2 := f2'; replace hX := hm.after hX (fun i e => e ▸ hg2); clear hm f2')
    | ((with_reducible refine at_load ?_); (try refine w_yes _ _ _ rfl rfl rfl ?_); refine w_fload _ rfl rfl rfl f1 rfl (agg_of (by kernel_rfl)) ?_)
    | fail) <;> (try simp only [Act.put, List.setIfInBounds_toArray, List.set_cons_zero, List.set_cons_succ]))
  exact bodyPost_ret (ag_one Try.ag6 rfl rfl f2 rfl) rfl (Keep.intro ⟨rfl, hX⟩)
end Go.Proofs.Ytgbhbifdfcfamaa
