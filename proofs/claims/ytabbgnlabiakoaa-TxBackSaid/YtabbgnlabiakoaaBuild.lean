/- buildSlice of values of one cell as a step of a walk. -/
import Derived.Test.YtabbgnlabiakoaaRegStep
namespace Go.Proofs.Ytabbgnlabiakoaa
open Go.RowKit

theorem Byt.oneCell {w : World} {v : Value} {l : List Nat} (h : Byt w v l) : v.cells = #[v] := Sl.oneCell h
theorem u8s_cells (l : List Nat) : ∀ u ∈ u8s l, u.cells = #[u] := by
  intro u hu; simp only [u8s, List.mem_map] at hu; obtain ⟨n, _, rfl⟩ := hu; rfl
/-- Bytes written out. -/
theorem w_bytes {ops : Array Oper} {rest : List Oper} {o : Oper} {a : Act} {Q : Exit → Act → World → Prop} {w : World} {n : Nat} {ps : Array (Nat × Operand)} (l : List Nat) (hgd : o.guard = none) (ho : o.op = .buildSlice 28 n ps)
    (hps : (ps.toList.map fun x => (x.1, a.eval x.2)) = ((u8s l).zipIdx 0).map fun p => (p.2, p.1)) (hn : n = l.length) (hs : n ≤ 1000000)
    (k : ∀ v' w', Ext w w' → OwnB w.heap.size w' v' l → wpList Try.prog ops Q rest (a.put o.dst v') w') : wpList Try.prog ops Q (o :: rest) a w :=
  w_new Try.elB (u8s l) hgd ho hps (u8s_cells l) (by rw [u8s_length]; exact hn) hs fun v' w' hx h => k v' w' hx h
end Go.Proofs.Ytabbgnlabiakoaa
