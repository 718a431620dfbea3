/- Steps of a walk: an array's element; structs whose fields are structs (a field's address, the inner struct read). -/
import Derived.Test.YtabbgnlabiakoaaRecs
namespace Go.Proofs.Ytabbgnlabiakoaa
open Go.RowKit

section
variable {P : Program} {ops : Array Oper} {rest : List Oper} {o : Oper} {a : Act} {Q : Exit → Act → World → Prop} {w : World} {t e : TypeId} {n : Nat}
/-- v[i] of an array of one-cell values. -/
theorem runs_aget {ρ : Operand → Value} {us : List Value} {u : Value} (hu : P.underlying t = some (.array n e)) (hs : (P.info? e).map (·.size) = some 1) (hag : ∀ w, (isAgg e).run P w = .ok false w) (x y : Operand) (i : Nat) (ho : o.op = .index t x y) (hx : ρ x = .agg us.toArray) (hy : ρ y = .int .i64 i) (hi : us[i]? = some u) (hn : us.length = n) : Runs P o ρ w u := by
  cases hq : P.info? e with
  | none => rw [hq] at hs; simp at hs
  | some j =>
    have hj : j.size = 1 := by simpa [hq] using hs
    have hlt : i < n := by rw [← hn]; exact (List.getElem?_eq_some_iff.1 hi).1
    have hpart : (part e us.toArray i).run P w = .ok u w := by
      unfold part
      simp [Sem.run_bind, hag w, Result.andThen_ok, hi]
    have hpart2 : (part e us.toArray (Int.toNat (i : Int) * 1)).run P w = .ok u w := by simpa using hpart
    unfold Runs execOp
    simp [ho, hx, hy, Instr.index, asIntOf, run_underlying hu, sizeOf, typeInfo, hq, hj, hlt, hpart]
theorem w_aget {us : List Value} {u : Value} (hu : P.underlying t = some (.array n e)) (hs : (P.info? e).map (·.size) = some 1) (hag : ∀ w, (isAgg e).run P w = .ok false w) (x y : Operand) (i : Nat) (hgd : o.guard = none) (ho : o.op = .index t x y) (hx : a.eval x = .agg us.toArray) (hy : a.eval y = .int .i64 i) (hi : us[i]? = some u) (hn : us.length = n)
    (k : wpList P ops Q rest (a.put o.dst u) w) : wpList P ops Q (o :: rest) a w := wpList_runs hgd (runs_aget hu hs hag x y i ho hx hy hi hn) k

/-- Field i of the struct type t lies at off, for the kernel. -/
def fieldB (P : Program) (t : TypeId) (i off : Nat) : Bool := match P.underlying t with
  | some (.struct fs) => match fs[i]? with
    | some f => f.offset == off && (match P.info? f.type with | some j => j.size != 0 | none => false)
    | none => false
  | _ => false
/-- &p.f, of any struct -/
theorem runs_fieldN {ρ : Operand → Value} {i off : Nat} (hB : fieldB P t i off = true) (x : Operand) (g : Nat) (ho : o.op = .fieldAddr t x i) (hx : ρ x = .pointer (some ⟨g, 0, none⟩)) : Runs P o ρ w (.pointer (some ⟨g, off, none⟩)) := by
  unfold fieldB at hB
  cases hu : P.underlying t with
  | none => rw [hu] at hB; cases hB
  | some u =>
    rw [hu] at hB
    cases u <;> try cases hB
    rename_i fs
    simp only at hB
    cases hfi : fs[i]? with
    | none => rw [hfi] at hB; cases hB
    | some f =>
      rw [hfi] at hB
      simp only [Bool.and_eq_true, beq_iff_eq] at hB
      obtain ⟨h1, h2⟩ := hB
      cases hq : P.info? f.type with
      | none => rw [hq] at h2; cases h2
      | some j =>
        have h3 : j.size ≠ 0 := by rw [hq] at h2; simpa using h2
        unfold Runs execOp
        have hadd := add_zero_off g off
        simp [ho, hx, Instr.fieldAt, Instr.sureAddr, run_underlying hu, hfi, fieldPlace, sizeOf, typeInfo, hq, h1, hadd, h3]
theorem w_fieldN {i off : Nat} (hB : fieldB P t i off = true) (x : Operand) (g : Nat) (hgd : o.guard = none) (ho : o.op = .fieldAddr t x i) (hx : a.eval x = .pointer (some ⟨g, 0, none⟩))
    (k : wpList P ops Q rest (a.put o.dst (.pointer (some ⟨g, off, none⟩))) w) : wpList P ops Q (o :: rest) a w :=
  wpList_runs hgd (runs_fieldN hB x g ho hx) k

/-- &p.f, p the address of a record of one-cell fields -/
theorem runs_pfield {ρ : Operand → Value} {zs : List Value} (E : St P t n zs) (x : Operand) {p : Addr} (i : Nat) (ho : o.op = .fieldAddr t x i) (hx : ρ x = .pointer (some p)) (hi : i < n) : Runs P o ρ w (.pointer (some (p.add i))) := by
  obtain ⟨fs, hu, hs, hf⟩ := E.u
  have hfi : fs[i]? = some (fs[i]'(by omega)) := Array.getElem?_eq_getElem (by omega)
  obtain ⟨h1, h2⟩ := hf i _ hfi
  cases hq : P.info? (fs[i]'(by omega)).type with
  | none => rw [hq] at h2; simp at h2
  | some j =>
    have hj : j.size = 1 := by simpa [hq] using h2
    unfold Runs execOp
    simp [ho, hx, Instr.fieldAt, Instr.sureAddr, run_underlying hu, hfi, fieldPlace, sizeOf, typeInfo, hq, hj, h1]
theorem w_pfield {zs : List Value} (E : St P t n zs) (x : Operand) {p : Addr} (i : Nat) (hgd : o.guard = none) (ho : o.op = .fieldAddr t x i) (hx : a.eval x = .pointer (some p)) (hi : i < n)
    (k : wpList P ops Q rest (a.put o.dst (.pointer (some (p.add i)))) w) : wpList P ops Q (o :: rest) a w := wpList_runs hgd (runs_pfield E x i ho hx hi) k
/-- A cell of a record, read. -/
theorem w_rowload {ty : TypeId} (x : Operand) {p : Addr} {row : List Value} {i : Nat} {u : Value} (hgd : o.guard = none) (ho : o.op = .load ty x) (hx : a.eval x = .pointer (some (p.add i))) (h : RowAt w p row) (hi : row[i]? = some u) (ha : ∀ w, (isAgg ty).run P w = .ok false w)
    (k : wpList P ops Q rest (a.put o.dst u) w) : wpList P ops Q (o :: rest) a w := by
  have hc := h i u hi
  have key : ∀ ρ : Operand → Value, ρ x = .pointer (some (p.add i)) → Runs P o ρ w u := fun ρ hx => by
    unfold Runs execOp
    simp [ho, hx, go_sem, ha, hc]
  exact wpList_runs hgd (key _ hx) k

/-- A struct type of n cells. -/
structure StN (P : Program) (t : TypeId) (n : Nat) (zs : List Value) : Prop where
  u : ∃ fs, P.underlying t = some (.struct fs)
  info : ∃ i : TypeInfo, P.info? t = some i ∧ i.zero = some (.agg zs.toArray) ∧ i.size = n
  zl : zs.length = n
theorem St.toN {zs : List Value} (E : St P t n zs) : StN P t n zs := by
  obtain ⟨fs, h, _⟩ := E.u
  exact ⟨⟨fs, h⟩, E.info, E.zl⟩
theorem StN.of {P : Program} {t : TypeId} {n : Nat} {zs : List Value} (h : (match P.underlying t with | some (.struct _) => true | _ => false) = true) (hz : (P.info? t).map (fun i => (i.zero, i.size)) = some (some (.agg zs.toArray), n)) (hl : zs.length = n) : StN P t n zs := by
  refine ⟨?_, ?_, hl⟩
  · cases hu : P.underlying t with
    | none => rw [hu] at h; cases h
    | some u => rw [hu] at h; cases u <;> first | exact ⟨_, rfl⟩ | cases h
  · cases hq : P.info? t with
    | none => rw [hq] at hz; simp at hz
    | some i => rw [hq] at hz; simp at hz; exact ⟨i, rfl, hz.1, hz.2⟩
variable {zs : List Value}
/-- A variable of its own, of value zero. -/
theorem w_allocN (E : StN P t n zs) (hgd : o.guard = none) (ho : o.op = .alloc t)
    (k : ∀ g w', w.heap.size ≤ g → Ext w w' → Fs w' g zs → wpList P ops Q rest (a.put o.dst (.pointer (some ⟨g, 0, none⟩))) w') : wpList P ops Q (o :: rest) a w := by
  obtain ⟨i0, hi, hz, hs⟩ := E.info
  refine wpList_plain hgd fun K hK => ?_
  have hk := hK _ _ (k _ _ (Nat.le_refl _) ((Ext.refl w).alloc (.cells zs.toArray t)) (by simpa using Fs.alloc w zs.toArray t))
  unfold Oper.wp execOp
  simp [ho, Instr.alloc, newVar, newRow, zeroValue, typeInfo, hi, hz, Value.cells]
  exact hk
/-- A struct within a struct, read. -/
theorem runs_loadN {ρ : Operand → Value} (E : StN P t n zs) (x : Operand) {g off : Nat} {cs us : List Value} (ho : o.op = .load t x) (hx : ρ x = .pointer (some ⟨g, off, none⟩)) (h : Fs w g cs) (hl : us.length = n) (hus : ∀ j u, us[j]? = some u → cs[off + j]? = some u) : Runs P o ρ w (.agg us.toArray) := by
  obtain ⟨fs, hu⟩ := E.u
  obtain ⟨i0, hi, _, hs⟩ := E.info
  have hadd : ∀ j, (⟨g, off, none⟩ : Addr).add j = ⟨g, off + j, none⟩ := fun j => by unfold Addr.add; split <;> simp_all
  have hc := run_loadCells_list (P := P) w ⟨g, off, none⟩ us (fun j u hj => by rw [hadd]; exact h.cell (hus j u hj))
  rw [hl] at hc
  unfold Runs execOp
  simp [ho, hx, Instr.loadAt, Instr.sureAddr, loadVar, isAgg, run_underlying hu, sizeOf, typeInfo, hi, hs, hc]
theorem w_loadN (E : StN P t n zs) (x : Operand) {g off : Nat} {cs : List Value} (us : List Value) (hgd : o.guard = none) (ho : o.op = .load t x) (hx : a.eval x = .pointer (some ⟨g, off, none⟩)) (h : Fs w g cs) (hl : us.length = n) (hus : ∀ j u, us[j]? = some u → cs[off + j]? = some u)
    (k : wpList P ops Q rest (a.put o.dst (.agg us.toArray)) w) : wpList P ops Q (o :: rest) a w := wpList_runs hgd (runs_loadN E x ho hx h hl hus) k
theorem w_ploadN (E : StN P t n zs) (x : Operand) {p : Addr} {cs : List Value} (hgd : o.guard = none) (ho : o.op = .load t x) (hx : a.eval x = .pointer (some p)) (h : RowAt w p cs) (hl : cs.length = n)
    (k : wpList P ops Q rest (a.put o.dst (.agg cs.toArray)) w) : wpList P ops Q (o :: rest) a w := by
  obtain ⟨fs, hu⟩ := E.u
  obtain ⟨i0, hi, _, hs⟩ := E.info
  have hc := run_loadCells_list (P := P) w p cs h
  rw [hl] at hc
  refine wpList_runs hgd ?_ k
  have key : ∀ ρ : Operand → Value, ρ x = .pointer (some p) → Runs P o ρ w (.agg cs.toArray) := fun ρ hx => by
    unfold Runs execOp
    simp [ho, hx, Instr.loadAt, Instr.sureAddr, loadVar, isAgg, run_underlying hu, sizeOf, typeInfo, hi, hs, hc]
  exact key _ hx
/-- The whole struct, written: the world under a new name. -/
theorem w_astoreN (E : StN P t n zs) (x y : Operand) {g : Nat} {cs us : List Value} (hgd : o.guard = none) (ho : o.op = .store t x y) (hd : o.dst = none) (hx : a.eval x = .pointer (some ⟨g, 0, none⟩)) (hy : a.eval y = .agg us.toArray) (h : Fs w g cs) (hl : cs.length = n) (hl' : us.length = n) (h1 : ∀ u ∈ us, u.oneCell' = true)
    (k : ∀ w', Mod (fun k => k = g) w w' → Fs w' g us → wpList P ops Q rest a w') : wpList P ops Q (o :: rest) a w := by
  obtain ⟨i0, hi, _, hs⟩ := E.info
  refine wpList_plain hgd fun K hK => ?_
  have hr := run_storeCells_cells (P := P) g 0 us 0 w (fun j hj => by
    have hj' : j < cs.length := by omega
    simp [h.cell (List.getElem?_eq_getElem hj')]) (fun j _ => by simpa using h.frozen j) h1
  have hk := hK _ _ (k _ (setCells_mod us 0 w g) (by
    have := setCells_fs us 0 (pre := []) (post := []) (old := cs) (w := w) (g := g) (by simpa using h) rfl (by omega)
    simpa using this))
  unfold Oper.wp execOp
  simp only [ho, hx, hy, Sem.run_bind, Instr.storeAt, storeVar, Instr.sureAddr, Sem.run_pure, Result.andThen_ok, sizeOf, typeInfo]
  simp [hi, hs, hl', Value.cells]
  simp at hr
  simp [hr, Oper.upon, hd, Act.put]
  exact hk
end
end Go.Proofs.Ytabbgnlabiakoaa
