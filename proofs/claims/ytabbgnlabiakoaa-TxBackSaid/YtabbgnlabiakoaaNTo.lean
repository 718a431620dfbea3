/- A part of a slice of records, from the first one on; where the block of what was appended to lies. -/
import Derived.Test.YtabbgnlabiakoaaRowRec
namespace Go.Proofs.Ytabbgnlabiakoaa
open Go.RowKit

section
variable {w w' : World} {v v' : Value}
/-- Where its new block lies. -/
theorem RowN.off {F : Nat → Prop} {e : TypeId} {n : Nat} {rows : List (List Value)} (hn : RowN (grow (fun k => v.ownBlock = some k) w w') w' e n v' rows) (hF : ∀ k, F k → k < w.heap.size) (hd : ∀ k, v.ownBlock = some k → ¬ F k) : ∀ k, v'.ownBlock = some k → ¬ F k := fun k hk h => by
  rcases hn.inF k hk with h1 | h1
  · exact hd k h1 h
  · have := hF k h; omega
end
section
variable {P : Program} {ops : Array Oper} {rest : List Oper} {o : Oper} {a : Act} {Q : Exit → Act → World → Prop} {w W0 : World} {v : Value} {t e : TypeId} {α : Type} {n : Nat} {R : World → List Value → α → Prop} {l : List α}
theorem runs_nto {ρ : Operand → Value} (E : ElS P t e n) (x y : Operand) (j : Nat) (ho : o.op = .slice t x none (some y) none) (hv : ρ x = v) (hy : ρ y = .int .i64 j) (h : Recs n R W0 v l) (hj : j ≤ l.length) :
    ∃ v', Runs P o ρ w v' ∧ Recs n R W0 v' (l.take j) ∧ v'.ownBlock = v.ownBlock := by
  obtain ⟨rows, ⟨A, c, rfl, h1, h2, h3⟩, hl, h4⟩ := h
  obtain ⟨i0, hi0, hsz⟩ := E.info
  have hu := E.hu
  have b1 : (Instr.sliceBound (.int .i64 (j : Int)) c .sliceAcap).run P w = .ok j w := by
    have : j ≤ c := by omega
    simp [Instr.sliceBound, go_sem]; omega
  refine ⟨.slice A j c, ?_, ⟨rows.take j, ⟨A, c, by simp; omega, by simp; omega, h2, fun k row hk => ?_⟩, by simp; omega, fun k row d hk hd => ?_⟩, by cases A <;> rfl⟩
  · unfold Runs execOp
    have hA : (A.map fun x : Addr => x.add 0) = A := by cases A <;> simp [Addr.add_zero']
    simp [ho, hv, hy, Instr.sliceAt, Instr.slice, run_underlying hu, Instr.sliceBounds, sizeOf, typeInfo, hi0, b1, Addr.add_zero']
  · rw [List.getElem?_take] at hk
    split at hk
    · exact h3 k row hk
    · cases hk
  · rw [List.getElem?_take] at hk hd
    split at hk
    · rename_i hlt
      rw [if_pos hlt] at hd
      exact h4 k row d hk hd
    · cases hk
/-- v[:j] of a slice of records: as they were at W0. -/
theorem w_nto0 (E : ElS P t e n) (x y : Operand) (j : Nat) (hgd : o.guard = none) (ho : o.op = .slice t x none (some y) none) (hv : a.eval x = v) (hy : a.eval y = .int .i64 j) (h : Recs n R W0 v l) (hj : j ≤ l.length)
    (k : ∀ v', Recs n R W0 v' (l.take j) → wpList P ops Q rest (a.put o.dst v') w) : wpList P ops Q (o :: rest) a w := by
  obtain ⟨v', h1, h2, _⟩ := runs_nto E x y j ho hv hy h hj
  exact wpList_runs hgd h1 (k v' h2)
/-- v[:j] of a slice of records -/
theorem w_nto (E : ElS P t e n) (x y : Operand) (j : Nat) (hgd : o.guard = none) (ho : o.op = .slice t x none (some y) none) (hv : a.eval x = v) (hy : a.eval y = .int .i64 j) (h : Recs n R w v l) (hj : j ≤ l.length)
    (k : ∀ v', Recs n R w v' (l.take j) → wpList P ops Q rest (a.put o.dst v') w) : wpList P ops Q (o :: rest) a w := w_nto0 E x y j hgd ho hv hy h hj k
end
end Go.Proofs.Ytabbgnlabiakoaa
