/- A struct's variable of its own, a record of a slice, as operations of a region that draws its order. -/
import Derived.Test.YtabbgnlabiakoaaRegO
import Derived.Test.YtabbgnlabiakoaaRecs
namespace Go.Proofs.Ytabbgnlabiakoaa
open Go.RowKit

/-- A pointer to a block, from lo on, that holds just these cells. -/
def Sp.fs (lo : Nat) (zs : List Value) : Sp := .any (fun v w => ∃ g, v = .pointer (some ⟨g, 0, none⟩) ∧ lo ≤ g ∧ Fs w g zs) fun _ _ _ ⟨g, h1, h2, h3⟩ he => ⟨g, h1, h2, h3.ext he⟩
section
variable {P : Program} {ops : Array Oper} {a : Act} {w : World} {r : List Sp} {o : Oper} {t : TypeId} {n lo : Nat} {zs : List Value}
theorem op_alloc (E : St P t n zs) (hle : lo ≤ w.heap.size) (hgd : o.guard = none) (ho : o.op = .alloc t) : opOk P ops a w r o [] (Sp.fs lo zs) := by
  intro σ w' hx hg
  rw [if_pos (wanted_none hgd _)]
  obtain ⟨i0, hi, hz, hs⟩ := E.info
  have hf : Fs (w'.alloc (.cells zs.toArray t)) w'.heap.size zs := by simpa using Fs.alloc w' zs.toArray t
  unfold Oper.wp execOp
  simp [ho, Instr.alloc, newVar, newRow, zeroValue, typeInfo, hi, hz, Value.cells]
  exact ⟨_, rfl, (Ext.refl _).alloc _, _, rfl, Nat.le_trans hle hx.size, hf⟩
end
/-- The address of a record that reads as d; the record itself. -/
def Sp.recp {α : Type} (n : Nat) (R : World → List Value → α → Prop) (hR : Stays R) (d : α) : Sp := .any (fun v w => ∃ p row, v = .pointer (some p) ∧ RowAt w p row ∧ row.length = n ∧ R w row d) fun _ _ _ ⟨p, row, h1, h2, h3, h4⟩ he => ⟨p, row, h1, h2.ext he, h3, hR _ _ _ _ h4 he⟩
def Sp.recv {α : Type} (R : World → List Value → α → Prop) (hR : Stays R) (d : α) : Sp := .any (fun v w => ∃ row, v = .agg row.toArray ∧ R w row d) fun _ _ _ h he => by obtain ⟨row, h1, h2⟩ := h; exact ⟨row, h1, hR _ _ _ _ h2 he⟩
/-- A slice of records that reads as l. -/
def Sp.recl {α : Type} (n : Nat) (R : World → List Value → α → Prop) (hR : Stays R) (l : List α) : Sp := .any (fun v w => Recs n R w v l) fun _ _ _ h he => h.ext hR he
section
variable {P : Program} {o : Oper} {ρ : Operand → Value} {w : World} {t e : TypeId} {α : Type} {n : Nat} {R : World → List Value → α → Prop} {l : List α} {v : Value} {d : α} {zs : List Value}
theorem rridx (hR : Stays R) (E : ElS P t e n) (x y : Operand) (i : Nat) (ho : o.op = .indexAddr t x y) (hv : ρ x = v) (hy : ρ y = .int .i64 i) (h : Recs n R w v l) (hd : l[i]? = some d) : ∃ v', Runs P o ρ w v' ∧ (Sp.recp n R hR d).p v' w := by
  obtain ⟨hi, rfl⟩ := List.getElem?_eq_some_iff.1 hd
  obtain ⟨p, row, h1, h2, h3, h4⟩ := runs_ridx E x y i ho hv hy h hi
  exact ⟨_, h1, p, row, rfl, h2, h3, h4⟩
theorem rrload (hR : Stays R) (E : St P e n zs) (x : Operand) (ho : o.op = .load e x) (h : (Sp.recp n R hR d).p (ρ x) w) : ∃ v', Runs P o ρ w v' ∧ (Sp.recv R hR d).p v' w := by
  obtain ⟨p, row, h1, h2, h3, h4⟩ := h
  exact ⟨_, runs_pload E x ho h1 h2 h3, row, rfl, h4⟩
end
end Go.Proofs.Ytabbgnlabiakoaa
