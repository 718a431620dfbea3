/- Steps at structs that lie within others: fields, parts, records of a slice. -/
import Derived.Test.YtgbhbifdfcfamaaMRec
namespace Go.Proofs.Ytgbhbifdfcfamaa
set_option maxRecDepth 100000
open Go.RowKit

section
variable {P : Program} {ops : Array Oper} {rest : List Oper} {o : Oper} {a : Act} {Q : Exit → Act → World → Prop} {w : World} {t : TypeId} {n : Nat} {zs : List Value}
theorem runs_fieldB {ρ : Operand → Value} {i off b c : Nat} (hB : fieldB P t i off = true) (hc : c = b + off) (x : Operand) (g : Nat) (ho : o.op = .fieldAddr t x i) (hx : ρ x = .pointer (some ⟨g, b, none⟩)) : Runs P o ρ w (.pointer (some ⟨g, c, none⟩)) := by
  subst hc
  unfold fieldB at hB
  cases hu : P.underlying t with
  | none => rw [hu] at hB; cases hB
  | some u =>
    rw [hu] at hB
    cases u <;> try cases hB
    rename_i fs
    simp only at hB
    cases hfi : fs[i]? with
    | none => rw [hfi] at hB; cases hB
    | some f =>
      rw [hfi] at hB
      simp only [Bool.and_eq_true, beq_iff_eq] at hB
      obtain ⟨h1, h2⟩ := hB
      cases hq : P.info? f.type with
      | none => rw [hq] at h2; cases h2
      | some j =>
        have h3 : j.size ≠ 0 := by rw [hq] at h2; simpa using h2
        unfold Runs execOp
        have hadd : (⟨g, b, none⟩ : Addr).add off = ⟨g, b + off, none⟩ := by unfold Addr.add; split <;> simp_all
        simp [ho, hx, Instr.fieldAt, Instr.sureAddr, run_underlying hu, hfi, fieldPlace, sizeOf, typeInfo, hq, h1, hadd, h3]
/-- The address of a field of a struct that lies within another one. -/
theorem w_fieldB {i off b c : Nat} (hB : fieldB P t i off = true) (hc : c = b + off) (x : Operand) (g : Nat) (hgd : o.guard = none) (ho : o.op = .fieldAddr t x i) (hx : a.eval x = .pointer (some ⟨g, b, none⟩))
    (k : wpList P ops Q rest (a.put o.dst (.pointer (some ⟨g, c, none⟩))) w) : wpList P ops Q (o :: rest) a w := wpList_runs hgd (runs_fieldB hB hc x g ho hx) k
theorem part_at {cs us : List Value} {off n : Nat} (h : (cs.drop off).take n = us) : ∀ (j : Nat) (u : Value), us[j]? = some u → cs[off + j]? = some u := by
  intro j u hj
  subst h
  rw [List.getElem?_take] at hj
  split at hj
  · rwa [List.getElem?_drop] at hj
  · cases hj
theorem runs_loadB {ρ : Operand → Value} (E : StN P t n zs) (x : Operand) {g off : Nat} {cs us : List Value} (ho : o.op = .load t x) (hx : ρ x = .pointer (some ⟨g, off, none⟩)) (h : Fs w g cs) (hus : (cs.drop off).take n = us) (hl : us.length = n) : Runs P o ρ w (.agg us.toArray) :=
  runs_loadN E x ho hx h hl (part_at hus)
theorem w_loadB (E : StN P t n zs) (x : Operand) {g off : Nat} {cs : List Value} (us : List Value) (hgd : o.guard = none) (ho : o.op = .load t x) (hx : a.eval x = .pointer (some ⟨g, off, none⟩)) (h : Fs w g cs) (hus : (cs.drop off).take n = us) (hl : us.length = n)
    (k : wpList P ops Q rest (a.put o.dst (.agg us.toArray)) w) : wpList P ops Q (o :: rest) a w := wpList_runs hgd (runs_loadB E x ho hx h hus hl) k
/-- A struct within a struct, written. -/
theorem w_storeB (E : StN P t n zs) (x y : Operand) {g off : Nat} {pre old us post : List Value} (hgd : o.guard = none) (ho : o.op = .store t x y) (hd : o.dst = none) (hx : a.eval x = .pointer (some ⟨g, off, none⟩)) (hy : a.eval y = .agg us.toArray) (h : Fs w g (pre ++ old ++ post)) (hp : pre.length = off) (hl : old.length = n) (hl' : us.length = n) (h1 : ∀ u ∈ us, u.oneCell' = true)
    (k : ∀ w', Mod (fun k => k = g) w w' → Fs w' g (pre ++ us ++ post) → wpList P ops Q rest a w') : wpList P ops Q (o :: rest) a w := by
  obtain ⟨i0, hi, _, hs⟩ := E.info
  refine wpList_plain hgd fun K hK => ?_
  have hr := run_storeCells_cells (P := P) g off us 0 w (fun j hj => by
    have hj' : off + j < (pre ++ old ++ post).length := by simp; omega
    have := h.cell (List.getElem?_eq_getElem hj')
    simp at this
    simp [this]) (fun j _ => by simpa using h.frozen _) h1
  have hk := hK _ _ (k _ (setCells_mod us off w g) (setCells_fs us off h hp (by omega)))
  have hadd : ∀ j, (⟨g, off, none⟩ : Addr).add j = ⟨g, off + j, none⟩ := fun j => by unfold Addr.add; split <;> simp_all
  unfold Oper.wp execOp
  simp only [ho, hx, hy, Sem.run_bind, Instr.storeAt, storeVar, Instr.sureAddr, Sem.run_pure, Result.andThen_ok, sizeOf, typeInfo]
  simp [hi, hs, hl', Value.cells]
  simp at hr
  simp [hr, Oper.upon, hd, Act.put]
  exact hk
end
section
variable {P : Program} {ops : Array Oper} {rest : List Oper} {o : Oper} {a : Act} {Q : Exit → Act → World → Prop} {w : World}
theorem w_nilP (x : Operand) {A : Addr} (hgd : o.guard = none) (ho : o.op = .nilCheck x) (hx : a.eval x = .pointer (some A)) (k : wpList P ops Q rest (a.put o.dst (.pointer (some A))) w) : wpList P ops Q (o :: rest) a w := wpList_runs hgd (runs_nil x ho hx) k
end
section
variable {P : Program} {ops : Array Oper} {rest : List Oper} {o : Oper} {a : Act} {Q : Exit → Act → World → Prop} {w : World} {t : TypeId}
theorem runs_pfieldB {ρ : Operand → Value} {i off : Nat} (hB : fieldB P t i off = true) (x : Operand) {p : Addr} (ho : o.op = .fieldAddr t x i) (hx : ρ x = .pointer (some p)) : Runs P o ρ w (.pointer (some (p.add off))) := by
  unfold fieldB at hB
  cases hu : P.underlying t with
  | none => rw [hu] at hB; cases hB
  | some u =>
    rw [hu] at hB
    cases u <;> try cases hB
    rename_i fs
    simp only at hB
    cases hfi : fs[i]? with
    | none => rw [hfi] at hB; cases hB
    | some f =>
      rw [hfi] at hB
      simp only [Bool.and_eq_true, beq_iff_eq] at hB
      obtain ⟨h1, h2⟩ := hB
      cases hq : P.info? f.type with
      | none => rw [hq] at h2; cases h2
      | some j =>
        have h3 : j.size ≠ 0 := by rw [hq] at h2; simpa using h2
        unfold Runs execOp
        simp [ho, hx, Instr.fieldAt, Instr.sureAddr, run_underlying hu, hfi, fieldPlace, sizeOf, typeInfo, hq, h1, h3]
/-- The address of a field of a struct at an address. -/
theorem w_pfieldB {i off : Nat} (hB : fieldB P t i off = true) (x : Operand) {p : Addr} (hgd : o.guard = none) (ho : o.op = .fieldAddr t x i) (hx : a.eval x = .pointer (some p))
    (k : wpList P ops Q rest (a.put o.dst (.pointer (some (p.add off)))) w) : wpList P ops Q (o :: rest) a w := wpList_runs hgd (runs_pfieldB hB x ho hx) k
theorem w_rowload2 {ty : TypeId} (x : Operand) {p : Addr} {row : List Value} {i j : Nat} {u : Value} (hgd : o.guard = none) (ho : o.op = .load ty x) (hx : a.eval x = .pointer (some ((p.add i).add j))) (h : RowAt w p row) (hi : row[i + j]? = some u) (ha : ∀ w, (isAgg ty).run P w = .ok false w)
    (k : wpList P ops Q rest (a.put o.dst u) w) : wpList P ops Q (o :: rest) a w := by
  rw [add_add'] at hx
  exact w_rowload x hgd ho hx h hi ha k
end
end Go.Proofs.Ytgbhbifdfcfamaa
