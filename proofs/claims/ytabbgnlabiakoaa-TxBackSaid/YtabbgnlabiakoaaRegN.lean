/- Records written out as a slice, as an operation of a region that draws its order. -/
import Derived.Test.YtabbgnlabiakoaaRegO
import Derived.Test.YtabbgnlabiakoaaRowRec
namespace Go.Proofs.Ytabbgnlabiakoaa
open Go.RowKit

/-- A slice of just these records. -/
def Sp.sls (n : Nat) (rows : List (List Value)) : Sp := .any (fun v w => SlS w v n rows) fun _ _ _ h he => h.ext he
section
variable {P : Program} {ops : Array Oper} {a : Act} {w : World} {r : List Sp} {o : Oper} {reads : List (Tmp × Option Nat)} {t e : TypeId} {n bytes : Nat} {z : Value}
theorem op_nbuild (E : ElN P t e n bytes z) (rows : List (List Value)) (m : Nat) (ps : Array (Nat × Operand)) (hgd : o.guard = none) (ho : o.op = .buildSlice t m ps) (hn : m = rows.length) (hs : m * n ≤ 1000000) (hone : ∀ r ∈ rows, r.length = n)
    (h : ∀ (σ : Act) (w' : World), Ext w w' → Given a r σ w' reads → (ps.toList.map fun x => (x.1, σ.eval x.2)) = ((rows.zipIdx 0).map fun p => (p.2, .agg p.1.toArray))) : opOk P ops a w r o reads (Sp.sls n rows) := by
  intro σ w' hx hg
  rw [if_pos (wanted_none hgd _)]
  have hps := h σ w' hx hg
  have hr := run_nbuild (P := P) E rows (ps.map fun x => (x.1, σ.eval x.2)) (by rw [Array.toList_map]; exact hps) hone m hn hs w'
  have hfl := flat_len hone
  have hml : m ≤ m * n := Nat.le_mul_of_pos_right _ E.pos
  have hrow : RowN (fun _ => True) (w'.alloc (.cells rows.flatten.toArray e)) e n (.slice (some ⟨w'.heap.size, 0, none⟩) m m) rows := ⟨⟨hfl, .inr ⟨w'.heap.size, m, rows.flatten.toArray, by rw [hn], Nat.zero_le _, heap_alloc_new w' _, by omega, by unfold maxLen; omega, by rw [hn]; simpa using hfl, by rw [← hfl]; exact List.take_length⟩⟩, hone, fun _ _ => trivial⟩
  unfold Oper.wp execOp
  simp only [ho]
  rw [show (Instr.buildSlice t m (ps.map fun (i, x) => (i, σ.eval x))) = Instr.buildSlice t m (ps.map fun x => (x.1, σ.eval x.2)) from rfl]
  simp only [Sem.run_bind, hr, Result.andThen_ok]
  exact ⟨_, rfl, (Ext.refl _).alloc _, hrow.slS⟩
end
end Go.Proofs.Ytabbgnlabiakoaa
