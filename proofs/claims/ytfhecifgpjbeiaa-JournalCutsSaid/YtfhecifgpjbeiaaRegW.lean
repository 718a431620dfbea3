/- Single operations at a state whose slots are opaque: a move, an assignment, a part of a slice of records, []T{}, append of records. -/
import Derived.Test.YtfhecifgpjbeiaaRegV
import Derived.Test.YtfhecifgpjbeiaaOwnW
namespace Go.Proofs.Ytfhecifgpjbeiaa
open Go.RowKit

section
variable {P : Program} {ops : Array Oper} {rest : List Oper} {o : Oper} {a : Act} {Q : Exit → Act → World → Prop} {w W0 : World} {v : Value} {t e : TypeId} {α : Type} {n bytes : Nat} {R : World → List Value → α → Prop} {l : List α} {z : Value}
theorem w_mv (x : Operand) (hgd : o.guard = none) (ho : o.op = .move x ∨ o.op = .assign x) (hv : a.eval x = v) (k : wpList P ops Q rest (a.put o.dst v) w) : wpList P ops Q (o :: rest) a w := by
  refine wpList_runs hgd ?_ k
  have key : ∀ ρ : Operand → Value, ρ x = v → Runs P o ρ w v := fun ρ hv => by
    unfold Runs execOp
    rcases ho with ho | ho <;> simp [ho, hv]
  exact key _ hv
/-- v[:j], v a slice of records as they were at W0. -/
theorem w_nto0 (E : ElS P t e n) (x y : Operand) (j : Nat) (hgd : o.guard = none) (ho : o.op = .slice t x none (some y) none) (hv : a.eval x = v) (hy : a.eval y = .int .i64 j) (h : Recs n R W0 v l) (hj : j ≤ l.length)
    (k : ∀ v', Recs n R W0 v' (l.take j) → wpList P ops Q rest (a.put o.dst v') w) : wpList P ops Q (o :: rest) a w := by
  obtain ⟨rows, ⟨A, c, rfl, h1, h2, h3⟩, hl, h4⟩ := h
  obtain ⟨i0, hi0, hsz⟩ := E.info
  have hu := E.hu
  have b1 : (Instr.sliceBound (.int .i64 (j : Int)) c .sliceAcap).run P w = .ok j w := by
    have : j ≤ c := by omega
    simp [Instr.sliceBound, go_sem]; omega
  refine wpList_runs hgd ?_ (k (.slice A j c) ⟨rows.take j, ⟨A, c, by simp; omega, by simp; omega, h2, fun k row hk => ?_⟩, by simp; omega, fun k row d hk hd => ?_⟩)
  · have key : ∀ ρ : Operand → Value, ρ x = .slice A rows.length c → ρ y = .int .i64 j → Runs P o ρ w (.slice A j c) := fun ρ hv hy => by
      unfold Runs execOp
      have hA : (A.map fun x : Addr => x.add 0) = A := by cases A <;> simp [Addr.add_zero']
      simp [ho, hv, hy, Instr.sliceAt, Instr.slice, run_underlying hu, Instr.sliceBounds, sizeOf, typeInfo, hi0, b1, Addr.add_zero']
    exact key _ hv hy
  · rw [List.getElem?_take] at hk
    split at hk
    · exact h3 k row hk
    · cases hk
  · rw [List.getElem?_take] at hk hd
    split at hk
    · rename_i hlt
      rw [if_pos hlt] at hd
      exact h4 k row d hk hd
    · cases hk
/-- []T{} -/
theorem w_nempty (E : ElN P t e n bytes z) {m : Nat} {ps : Array (Nat × Operand)} (hgd : o.guard = none) (ho : o.op = .buildSlice t m ps) (hps : (ps.toList.map fun x => (x.1, a.eval x.2)) = []) (hm : m = 0)
    (k : ∀ ad w', w.heap.size ≤ ad.block → Ext w w' → RowN (fun k => k = ad.block) w' e n (.slice (some ad) 0 0) [] → wpList P ops Q rest (a.put o.dst (.slice (some ad) 0 0)) w') : wpList P ops Q (o :: rest) a w := by
  refine wpList_plain hgd fun K hK => ?_
  subst hm
  have hr := run_nbuild (P := P) E [] (ps.map fun x => (x.1, a.eval x.2)) (by rw [Array.toList_map]; exact hps) (by simp) 0 rfl (by simp) w
  have hrow : RowN (fun k => k = w.heap.size) (w.alloc (.cells (([] : List (List Value)).flatten.toArray) e)) e n (.slice (some ⟨w.heap.size, 0, none⟩) 0 0) [] := by
    refine ⟨⟨by simp, .inr ⟨w.heap.size, 0, ([] : List (List Value)).flatten.toArray, rfl, Nat.zero_le _, heap_alloc_new w _, Nat.le_refl _, by unfold maxLen; omega, by simp, by simp⟩⟩, (fun r h => nomatch h), fun j hj => ?_⟩
    cases hj; rfl
  have hk := hK _ _ (k ⟨w.heap.size, 0, none⟩ _ (Nat.le_refl _) ((Ext.refl w).alloc _) hrow)
  unfold Oper.wp execOp
  simp only [ho]
  rw [show (Instr.buildSlice t 0 (ps.map fun (i, x) => (i, a.eval x))) = Instr.buildSlice t 0 (ps.map fun x => (x.1, a.eval x.2)) from rfl]
  simp only [Sem.run_bind, hr, Result.andThen_ok]
  exact hk
/-- An append whose run is known. -/
theorem w_apprun (x y : Operand) {s v' : Value} {w' : World} (hgd : o.guard = none) (ho : o.op = .call { callee := .builtin .append, args := #[x, y], argTypes := #[t, t] }) (hv : a.eval x = v) (hy : a.eval y = s)
    (hr : (Builtin.append_ #[t, t] o.type #[v, s]).run P w = .ok v' w') (k : wpList P ops Q rest (a.put o.dst v') w') : wpList P ops Q (o :: rest) a w := by
  refine wpList_plain hgd fun K hK => ?_
  unfold Oper.wp execOp
  simp only [ho, resolve, invoke, builtin, Sem.run_bind, Sem.run_pure, Result.andThen_ok, List.map_toArray, List.map_cons, List.map_nil, hv, hy, hr]
  exact hK _ _ k
theorem run_napp_nil (E : ElN P t e n bytes z) (ty : TypeId) (ad : Addr) {s : Value} (hs : SlS w s n []) : (Builtin.append_ #[t, t] ty #[.slice (some ad) 0 0, s]).run P w = .ok (.slice (some ad) 0 0) w := by
  obtain ⟨i, hi, hz, hsz, hby⟩ := E.info
  obtain ⟨A, c, rfl, _, _, _⟩ := hs
  cases A with
  | none => simp [Builtin.append_, run_underlying E.hu, sizeOf, typeInfo, hi, Builtin.lenOf, Builtin.firstCells, storeCells]
  | some b => simp [Builtin.append_, run_underlying E.hu, sizeOf, typeInfo, hi, Builtin.lenOf, Builtin.firstCells, storeCells, loadCells, loadCellsFrom]
end
/-- append([]T{}, s...): records as they were at W0. -/
theorem run_clone33 {W0 w : World} {s v : Value} {T : List RecD} {E : ElN Try.prog 22 28 5 56 (.agg #[.int .i64 0, .int .i64 0, .int .i64 0, .int .i64 0, .slice none 0 0])} (ty : TypeId) (hv : OwnW W0 w v []) (hvs : ∃ ad, v = .slice (some ad) 0 0) (hx : Ext W0 w) (hs : Recs 5 RecR W0 s T) (hl : T.length ≤ 1000000) :
    ∃ v' w', (Builtin.append_ #[22, 22] ty #[v, s]).run Try.prog w = .ok v' w' ∧ Mod (fun k => v.ownBlock = some k) w w' ∧ OwnW W0 w' v' T ∧ ∀ k, k < w.heap.size → v'.ownBlock = some k → v.ownBlock = some k := by
  obtain ⟨rowsT, g1, g2, g3⟩ := hs
  by_cases hT : T = []
  · subst hT
    obtain rfl : rowsT = [] := List.eq_nil_of_length_eq_zero g2
    obtain ⟨ad, rfl⟩ := hvs
    exact ⟨_, w, run_napp_nil E ty ad (g1.ext hx), Mod.refl _ w, hv, fun _ _ h => h⟩
  · obtain ⟨⟨rows, h1, h2, h3⟩, h4⟩ := hv
    obtain rfl : rows = [] := List.eq_nil_of_length_eq_zero h2
    have hone : ∀ y ∈ rowsT, ∀ u ∈ y, u.oneCell' = true := fun y hy => by
      obtain ⟨k, hk, rfl⟩ := List.getElem_of_mem hy
      exact (g3 k _ _ (List.getElem?_eq_getElem hk) (List.getElem?_eq_getElem (by omega))).one.2
    obtain ⟨v', w', hr, hm, hn⟩ := run_napp E ty h1 (g1.ext hx) (by intro e; subst e; exact hT (List.eq_nil_of_length_eq_zero g2.symm)) hone (by simp; omega)
    rw [List.nil_append] at hn
    refine ⟨v', w', hr, hm, ⟨⟨rowsT, ⟨hn.own, hn.each, fun _ h => h⟩, g2, g3⟩, fun k hk => ?_⟩, fun k hk hk2 => ?_⟩
    · rcases hn.inF k hk with h | h
      · exact h4 k h
      · have := hx.size; omega
    · rcases hn.inF k hk2 with h | h
      · exact h
      · omega
section
variable {ops : Array Oper} {listed : Array Bool} {i : Nat} {o : Oper}
theorem deps_of (ho : ops[i]? = some o) (h : ∀ j ∈ deps o, listed[j]? = some true) (j : Nat) (hb : ((ops[i]?).map fun o => (deps o).contains j).getD false = true) : listed[j]? = some true := by
  rw [ho] at hb
  exact h j (by simpa using hb)
theorem later_of (h : ∀ (k : Nat) (ok : Oper), ops[k]? = some ok → i ∈ deps ok → listed[k]? = some false) (k : Nat) (hb : ((ops[k]?).map fun o => (deps o).contains i).getD false = true) : ¬ listed[k]? = some true := by
  intro hl
  cases hk : ops[k]? with
  | none => rw [hk] at hb; cases hb
  | some ok =>
    rw [hk] at hb
    rw [h k ok hk (by simpa using hb)] at hl; cases hl
end
end Go.Proofs.Ytfhecifgpjbeiaa
