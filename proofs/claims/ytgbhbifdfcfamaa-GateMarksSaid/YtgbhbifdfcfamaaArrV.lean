/- An array as a variable: of value zero, made, stored into, the address of an element. -/
import Derived.Test.YtgbhbifdfcfamaaFB
namespace Go.Proofs.Ytgbhbifdfcfamaa
set_option maxRecDepth 100000
open Go.RowKit

/-- An array type of n elements of one cell each. -/
structure ArT (P : Program) (t e : TypeId) (n : Nat) (zs : List Value) : Prop where
  u : P.underlying t = some (.array n e)
  info : ∃ i : TypeInfo, P.info? t = some i ∧ i.zero = some (.agg zs.toArray) ∧ i.size = n
  ei : ∃ i : TypeInfo, P.info? e = some i ∧ i.size = 1
  zl : zs.length = n
theorem ArT.of {P : Program} {t e : TypeId} {n : Nat} {zs : List Value} (hu : P.underlying t = some (.array n e)) (hz : (P.info? t).map (fun i => (i.zero, i.size)) = some (some (.agg zs.toArray), n)) (he : (P.info? e).map (·.size) = some 1) (hl : zs.length = n) : ArT P t e n zs := by
  refine ⟨hu, ?_, ?_, hl⟩
  · cases hq : P.info? t with
    | none => rw [hq] at hz; simp at hz
    | some i => rw [hq] at hz; simp at hz; exact ⟨i, rfl, hz.1, hz.2⟩
  · cases hq : P.info? e with
    | none => rw [hq] at he; simp at he
    | some j => exact ⟨j, rfl, by simpa [hq] using he⟩
section
variable {P : Program} {ops : Array Oper} {rest : List Oper} {o : Oper} {a : Act} {Q : Exit → Act → World → Prop} {w : World} {t e : TypeId} {n : Nat} {zs : List Value}
/-- [n]T{} -/
theorem w_arrzero (E : ArT P t e n zs) (hgd : o.guard = none) (ho : o.op = .build t #[])
    (k : wpList P ops Q rest (a.put o.dst (.agg zs.toArray)) w) : wpList P ops Q (o :: rest) a w := by
  refine wpList_runs hgd ?_ k
  obtain ⟨i0, hi, hz, _⟩ := E.info
  obtain ⟨i1, hi1, _⟩ := E.ei
  unfold Runs execOp
  simp [ho, Instr.build, zeroValue, typeInfo, sizeOf, hi, hz, hi1, run_underlying E.u, Instr.fill, Value.cells]
/-- A variable of an array type. -/
theorem w_arralloc (E : ArT P t e n zs) (hgd : o.guard = none) (ho : o.op = .alloc t)
    (k : ∀ g w', w.heap.size ≤ g → Ext w w' → Fs w' g zs → wpList P ops Q rest (a.put o.dst (.pointer (some ⟨g, 0, none⟩))) w') : wpList P ops Q (o :: rest) a w := by
  obtain ⟨i0, hi, hz, hs⟩ := E.info
  refine wpList_plain hgd fun K hK => ?_
  have hk := hK _ _ (k _ _ (Nat.le_refl _) ((Ext.refl w).alloc (.cells zs.toArray t)) (by simpa using Fs.alloc w zs.toArray t))
  unfold Oper.wp execOp
  simp [ho, Instr.alloc, newVar, newRow, zeroValue, typeInfo, hi, hz, Value.cells]
  exact hk
/-- The whole array, written. -/
theorem w_arrstore (E : ArT P t e n zs) (x y : Operand) {g : Nat} {cs us : List Value} (hgd : o.guard = none) (ho : o.op = .store t x y) (hd : o.dst = none) (hx : a.eval x = .pointer (some ⟨g, 0, none⟩)) (hy : a.eval y = .agg us.toArray) (h : Fs w g cs) (hl : cs.length = n) (hl' : us.length = n) (h1 : ∀ u ∈ us, u.oneCell' = true)
    (k : ∀ w', Mod (fun k => k = g) w w' → Fs w' g us → wpList P ops Q rest a w') : wpList P ops Q (o :: rest) a w := by
  obtain ⟨i0, hi, _, hs⟩ := E.info
  refine wpList_plain hgd fun K hK => ?_
  have hr := run_storeCells_cells (P := P) g 0 us 0 w (fun j hj => by
    have hj' : j < cs.length := by omega
    simp [h.cell (List.getElem?_eq_getElem hj')]) (fun j _ => by simpa using h.frozen j) h1
  have hk := hK _ _ (k _ (setCells_mod us 0 w g) (by
    have := setCells_fs us 0 (pre := []) (post := []) (old := cs) (w := w) (g := g) (by simpa using h) rfl (by omega)
    simpa using this))
  unfold Oper.wp execOp
  simp only [ho, hx, hy, Sem.run_bind, Instr.storeAt, storeVar, Instr.sureAddr, Sem.run_pure, Result.andThen_ok, sizeOf, typeInfo]
  simp [hi, hs, hl', Value.cells]
  simp at hr
  simp [hr, Oper.upon, hd, Act.put]
  exact hk
/-- &v[i] -/
theorem w_arraddr (E : ArT P t e n zs) (x y : Operand) {g : Nat} (i : Nat) (hgd : o.guard = none) (ho : o.op = .indexAddr t x y) (hx : a.eval x = .pointer (some ⟨g, 0, none⟩)) (hy : a.eval y = .int .i64 i) (hi : i < n)
    (k : wpList P ops Q rest (a.put o.dst (.pointer (some ⟨g, i, none⟩))) w) : wpList P ops Q (o :: rest) a w := by
  obtain ⟨i1, h1, h2⟩ := E.ei
  have := runs_aidx (o := o) (ρ := a.eval) (w := w) E.u h1 h2 x y ho hx i hy hi
  rw [add_zero_off] at this
  exact wpList_runs hgd this k
end
end Go.Proofs.Ytgbhbifdfcfamaa
