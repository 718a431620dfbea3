/- Slices of records (structs of n cells; n = 1: slices, numbers): what they read as, as steps of a walk. -/
import Derived.Test.YtabbgnlabiakoaaRowStep
import Derived.Test.YtabbgnlabiakoaaRegStep
namespace Go.Proofs.Ytabbgnlabiakoaa
open Go.RowKit

/-- From p on there lie the cells cs. -/
def RowAt (w : World) (p : Addr) (cs : List Value) : Prop := ∀ (j : Nat) (u : Value), cs[j]? = some u → w.cell? (p.add j) = some u
theorem RowAt.ext {w w' : World} {p : Addr} {cs : List Value} (h : RowAt w p cs) (he : Ext w w') : RowAt w' p cs := fun j u hj => he.cell (h j u hj)
theorem RowAt.mod {F : Nat → Prop} {w w' : World} {p : Addr} {cs : List Value} (h : RowAt w p cs) (hm : Mod F w w') (hn : ¬ F p.block) : RowAt w' p cs := fun j u hj => by
  have hc := h j u hj
  have hb : (p.add j).block = p.block := blk_add p j
  rw [World.cell?_of_block (w := w) (hm.block _ (World.block_lt_of_cell? w _ hc) (by rw [hb]; exact hn))]; exact hc
/-- v is a slice of records of n cells: these. -/
def SlS (w : World) (v : Value) (n : Nat) (rows : List (List Value)) : Prop :=
  ∃ (A : Option Addr) (c : Nat), v = .slice A rows.length c ∧ rows.length ≤ c ∧ c ≤ maxLen ∧ ∀ (k : Nat) (row : List Value), rows[k]? = some row → row.length = n ∧ ∃ ad : Addr, A = some ad ∧ RowAt w (ad.add (k * n)) row
theorem SlS.ext {w w' : World} {v : Value} {n : Nat} {rows : List (List Value)} (h : SlS w v n rows) (he : Ext w w') : SlS w' v n rows := by
  obtain ⟨A, c, h1, h2, h3, h4⟩ := h
  exact ⟨A, c, h1, h2, h3, fun k row hk => by obtain ⟨h5, ad, h6, h7⟩ := h4 k row hk; exact ⟨h5, ad, h6, h7.ext he⟩⟩

/-- v is a slice of records of n cells, which read as l. -/
def Recs {α : Type} (n : Nat) (R : World → List Value → α → Prop) (w : World) (v : Value) (l : List α) : Prop :=
  ∃ rows : List (List Value), SlS w v n rows ∧ rows.length = l.length ∧ ∀ (k : Nat) (row : List Value) (d : α), rows[k]? = some row → l[k]? = some d → R w row d
/-- What a record reads as stays, whatever is added. -/
def Stays {α : Type} (R : World → List Value → α → Prop) : Prop := ∀ w w' row d, R w row d → Ext w w' → R w' row d
theorem Recs.ext {α : Type} {n : Nat} {R : World → List Value → α → Prop} (hR : Stays R) {w w' : World} {v : Value} {l : List α} (h : Recs n R w v l) (he : Ext w w') : Recs n R w' v l := by
  obtain ⟨rows, h1, h2, h3⟩ := h
  exact ⟨rows, h1.ext he, h2, fun k row d hk hd => hR _ _ _ _ (h3 k row d hk hd) he⟩
theorem Recs.len_le {α : Type} {n : Nat} {R : World → List Value → α → Prop} {w : World} {v : Value} {l : List α} (h : Recs n R w v l) : l.length ≤ maxLen := by
  obtain ⟨rows, ⟨A, c, _, h1, h2, _⟩, h3, _⟩ := h; omega

section
variable {P : Program} {ops : Array Oper} {rest : List Oper} {o : Oper} {a : Act} {Q : Exit → Act → World → Prop} {w : World} {v : Value} {t e : TypeId} {α : Type} {n : Nat} {R : World → List Value → α → Prop} {l : List α}
/-- A slice type of elements of n cells. -/
structure ElS (P : Program) (t e : TypeId) (n : Nat) : Prop where
  hu : P.underlying t = some (.slice e)
  info : ∃ i : TypeInfo, P.info? e = some i ∧ i.size = n
theorem ElS.of (hu : P.underlying t = some (.slice e)) (h : (P.info? e).map (·.size) = some n) : ElS P t e n := by
  refine ⟨hu, ?_⟩
  cases hq : P.info? e with
  | none => rw [hq] at h; simp at h
  | some i => exact ⟨i, rfl, by simpa [hq] using h⟩
theorem runs_rlen {ρ : Operand → Value} (E : ElS P t e n) (x : Operand) (ho : o.op = .call { callee := .builtin .len, args := #[x], argTypes := #[t] }) (hv : ρ x = v) (h : Recs n R w v l) : Runs P o ρ w (.int .i64 l.length) := by
  obtain ⟨rows, ⟨A, c, rfl, _⟩, hl, _⟩ := h
  have hu := E.hu
  rw [← hl]
  unfold Runs execOp
  simp [ho, resolve, invoke, builtin, hv, run_len_slice, go_sem, hu]
theorem runs_ridx {ρ : Operand → Value} (E : ElS P t e n) (x y : Operand) (i : Nat) (ho : o.op = .indexAddr t x y) (hv : ρ x = v) (hy : ρ y = .int .i64 i) (h : Recs n R w v l) (hi : i < l.length) :
    ∃ p row, Runs P o ρ w (.pointer (some p)) ∧ RowAt w p row ∧ row.length = n ∧ R w row l[i] := by
  obtain ⟨rows, ⟨A, c, rfl, h1, h2, h3⟩, hl, h4⟩ := h
  obtain ⟨i0, hi0, hsz⟩ := E.info
  have hu := E.hu
  have hir : i < rows.length := by omega
  obtain ⟨h5, ad, rfl, h6⟩ := h3 i _ (List.getElem?_eq_getElem hir)
  refine ⟨_, _, ?_, h6, h5, h4 i _ _ (List.getElem?_eq_getElem hir) (List.getElem?_eq_getElem hi)⟩
  unfold Runs execOp
  simp [ho, hv, hy, Instr.indexAt, run_underlying hu, sizeOf, typeInfo, hi0, hsz, go_sem, hir]
theorem runs_pload {ρ : Operand → Value} {zs : List Value} (E : St P t n zs) (x : Operand) {p : Addr} {cs : List Value} (ho : o.op = .load t x) (hx : ρ x = .pointer (some p)) (h : RowAt w p cs) (hl : cs.length = n) : Runs P o ρ w (.agg cs.toArray) := by
  obtain ⟨fs, hu, _, _⟩ := E.u
  obtain ⟨i0, hi, _, hs⟩ := E.info
  have hc := run_loadCells_list (P := P) w p cs h
  rw [hl] at hc
  unfold Runs execOp
  simp [ho, hx, Instr.loadAt, Instr.sureAddr, loadVar, isAgg, run_underlying hu, sizeOf, typeInfo, hi, hs, hc]
theorem w_rlen (E : ElS P t e n) (x : Operand) (hgd : o.guard = none) (ho : o.op = .call { callee := .builtin .len, args := #[x], argTypes := #[t] }) (hv : a.eval x = v) (h : Recs n R w v l)
    (k : wpList P ops Q rest (a.put o.dst (.int .i64 l.length)) w) : wpList P ops Q (o :: rest) a w := wpList_runs hgd (runs_rlen E x ho hv h) k
theorem w_ridx (E : ElS P t e n) (x y : Operand) (i : Nat) (hgd : o.guard = none) (ho : o.op = .indexAddr t x y) (hv : a.eval x = v) (hy : a.eval y = .int .i64 i) (h : Recs n R w v l) (hi : i < l.length)
    (k : ∀ p row, RowAt w p row → row.length = n → R w row l[i] → wpList P ops Q rest (a.put o.dst (.pointer (some p))) w) : wpList P ops Q (o :: rest) a w := by
  obtain ⟨p, row, h1, h2, h3, h4⟩ := runs_ridx E x y i ho hv hy h hi
  exact wpList_runs hgd h1 (k p row h2 h3 h4)
/-- &v[i], v from outside: the record as it was at W0. -/
theorem w_ridx0 (E : ElS P t e n) (x y : Operand) (i : Nat) {W0 : World} (hR : Stays R) (hgd : o.guard = none) (ho : o.op = .indexAddr t x y) (hv : a.eval x = v) (hy : a.eval y = .int .i64 i) (h : Recs n R W0 v l) (he : Ext W0 w) (hi : i < l.length)
    (k : ∀ p row, RowAt W0 p row → row.length = n → R W0 row l[i] → wpList P ops Q rest (a.put o.dst (.pointer (some p))) w) : wpList P ops Q (o :: rest) a w := by
  have h' := h.ext hR he
  obtain ⟨rows, ⟨A, c, rfl, h1, h2, h3⟩, hl, h4⟩ := h
  obtain ⟨i0, hi0, hsz⟩ := E.info
  have hu := E.hu
  have hir : i < rows.length := by omega
  obtain ⟨h5, ad, rfl, h6⟩ := h3 i _ (List.getElem?_eq_getElem hir)
  refine wpList_runs hgd ?_ (k _ _ h6 h5 (h4 i _ _ (List.getElem?_eq_getElem hir) (List.getElem?_eq_getElem hi)))
  have key : ∀ (ρ : Operand → Value), ρ x = .slice (some ad) rows.length c → ρ y = .int .i64 i → Runs P o ρ w (.pointer (some (ad.add (i * n)))) := fun ρ hv hy => by
    unfold Runs execOp
    simp [ho, hv, hy, Instr.indexAt, run_underlying hu, sizeOf, typeInfo, hi0, hsz, go_sem, hir]
  exact key _ hv hy
theorem w_pload {zs : List Value} (E : St P t n zs) (x : Operand) {p : Addr} {cs : List Value} (hgd : o.guard = none) (ho : o.op = .load t x) (hx : a.eval x = .pointer (some p)) (h : RowAt w p cs) (hl : cs.length = n)
    (k : wpList P ops Q rest (a.put o.dst (.agg cs.toArray)) w) : wpList P ops Q (o :: rest) a w := wpList_runs hgd (runs_pload E x ho hx h hl) k
theorem runs_cload {ρ : Operand → Value} {ty : TypeId} (x : Operand) {p : Addr} {u : Value} (ho : o.op = .load ty x) (hx : ρ x = .pointer (some p)) (h : RowAt w p [u]) (ha : (isAgg ty).run P w = .ok false w) : Runs P o ρ w u := by
  have hc := h 0 u rfl
  rw [Addr.add_zero'] at hc
  unfold Runs execOp
  simp [ho, hx, go_sem, ha, hc]
/-- A cell, at an address from outside. -/
theorem w_cload {ty : TypeId} (x : Operand) {p : Addr} {u : Value} (hgd : o.guard = none) (ho : o.op = .load ty x) (hx : a.eval x = .pointer (some p)) (h : RowAt w p [u]) (ha : ∀ w, (isAgg ty).run P w = .ok false w)
    (k : wpList P ops Q rest (a.put o.dst u) w) : wpList P ops Q (o :: rest) a w := wpList_runs hgd (runs_cload x ho hx h (ha w)) k
end
/-- A record that is one slice of bytes. -/
def BytR (w : World) (row : List Value) (d : List Nat) : Prop := ∃ u, row = [u] ∧ Byt w u d
theorem BytR.stays : Stays BytR := fun _ _ _ _ ⟨u, h1, h2⟩ he => ⟨u, h1, h2.ext he⟩
end Go.Proofs.Ytabbgnlabiakoaa
