/- append onto an owned slice of records, of a slice that may be empty. -/
import Derived.Test.YtabbgnlabiakoaaRowRec
namespace Go.Proofs.Ytabbgnlabiakoaa
open Go.RowKit

section
variable {P : Program} {ops : Array Oper} {rest : List Oper} {o : Oper} {a : Act} {Q : Exit → Act → World → Prop} {F : Nat → Prop} {w : World} {v : Value} {rows : List (List Value)} {t e : TypeId} {n bytes : Nat} {z : Value}
theorem run_napp0 (E : ElN P t e n bytes z) (ty : TypeId) {s : Value} {ys : List (List Value)} (h : RowN F w e n v rows) (hs : SlS w s n ys) (h1 : ∀ y ∈ ys, ∀ u ∈ y, u.oneCell' = true) (hb : (rows.length + ys.length) * bytes ≤ 140737488355328) :
    ∃ v' w', (Builtin.append_ #[t, t] ty #[v, s]).run P w = .ok v' w' ∧ Mod F w w' ∧ RowN (grow F w w') w' e n v' (rows ++ ys) := by
  by_cases hy : ys = []
  rotate_left
  · exact run_napp E ty h hs hy h1 hb
  subst hy
  obtain ⟨A, c, rfl, _⟩ := hs
  obtain ⟨i0, hi, hz, hsz, hby⟩ := E.info
  have hu := E.hu
  cases A with
  | none =>
    refine ⟨v, w, ?_, Mod.refl F w, by rw [List.append_nil]; exact h.mono fun k hk => .inl hk⟩
    obtain ⟨⟨_, ⟨rfl, _⟩ | ⟨g, cap, cur, rfl, _, _, hnc, _⟩⟩, _, _⟩ := h
    · simp [Builtin.append_, run_underlying hu, sizeOf, typeInfo, hi, Builtin.lenOf, Builtin.firstCells]
    · simp [Builtin.append_, run_underlying hu, sizeOf, typeInfo, hi, Builtin.lenOf, Builtin.firstCells, hnc, storeCells]
  | some ad =>
    have hm : rows.length + 0 ≤ maxLen := by
      have h2 : rows.length * bytes ≤ 140737488355328 := by simpa using hb
      have := Nat.le_mul_of_pos_right rows.length E.bpos
      unfold maxLen; omega
    obtain ⟨v', w', hr, h2, h3, _, h5⟩ := run_append_own_at (P := P) w 0 t ty e i0 z n bytes E.hu hi hz hsz hby E.zs E.pos v rows.length rows.flatten h.own ad 0 c [] (by simp) (fun j u hj => by simp at hj) (by simp) hm (by simpa using hb) (Nat.zero_le _)
    have hmod : Mod F w w' := (Mod.grown h3).mono fun i _ hi => h.inF i hi
    rw [List.append_nil, Nat.add_zero] at h2
    rw [List.append_nil]
    refine ⟨v', w', hr, hmod, h2, h.each, fun k hk => ?_⟩
    have hlt := (h2.lt k hk).2
    rcases h5 with h5 | h5
    · exact .inl (h.inF k (by rw [← h5]; exact hk))
    · rw [h5] at hk; cases hk; exact .inr ⟨Nat.le_refl _, hlt⟩
/-- append(v, s...), v an owned slice of records -/
theorem w_napp0 (E : ElN P t e n bytes z) (x y : Operand) {s : Value} {ys : List (List Value)} (hgd : o.guard = none) (ho : o.op = .call { callee := .builtin .append, args := #[x, y], argTypes := #[t, t] }) (hv : a.eval x = v) (hy : a.eval y = s)
    (h : RowN F w e n v rows) (hs : SlS w s n ys) (h1 : ∀ y ∈ ys, ∀ u ∈ y, u.oneCell' = true) (hb : (rows.length + ys.length) * bytes ≤ 140737488355328)
    (k : ∀ v' w', Mod F w w' → RowN (grow F w w') w' e n v' (rows ++ ys) → wpList P ops Q rest (a.put o.dst v') w') : wpList P ops Q (o :: rest) a w := by
  refine wpList_plain hgd fun K hK => ?_
  obtain ⟨v', w', hr, h2, h3⟩ := run_napp0 E o.type h hs h1 hb
  unfold Oper.wp execOp
  simp only [ho, resolve, invoke, builtin, Sem.run_bind, Sem.run_pure, Result.andThen_ok, List.map_toArray, List.map_cons, List.map_nil, hv, hy, hr]
  exact hK _ _ (k v' w' h2 h3)
end
end Go.Proofs.Ytabbgnlabiakoaa
