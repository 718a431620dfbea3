/- buildSlice of values of one cell as a step of a walk. -/
import Derived.Test.YtdnppmpgpkpapaaRegStep
namespace Go.Proofs.Ytdnppmpgpkpapaa
open Go.RowKit

theorem fill_ok : ∀ (us : List Value) (k : Nat) (cells : Array Value), (∀ u ∈ us, u.cells = #[u]) → k + us.length = cells.size →
    Instr.fill (fun i => some (i * 1, 1)) cells ((us.zipIdx k).map fun p => (p.2, p.1)) = some (cells.toList.take k ++ us).toArray
  | [], k, cells, _, h => by
    have : cells.toList.length ≤ k := by simp at h ⊢; omega
    simp [Instr.fill, List.take_of_length_le this]
  | u :: us, k, cells, h1, h => by
    have hu := h1 u (List.mem_cons_self ..)
    have hk : k < cells.size := by simp at h; omega
    have ih := fill_ok us (k + 1) (cells.setIfInBounds k u) (fun x hx => h1 x (List.mem_cons_of_mem _ hx)) (by simp at h ⊢; omega)
    simp only [List.zipIdx_cons, List.map_cons, Instr.fill, hu, Nat.mul_one]
    rw [if_neg (by simp; omega)]
    have hz : (#[u].zipIdx.foldl (fun cs (x : Value × Nat) => cs.setIfInBounds (k + x.2) x.1) cells) = cells.setIfInBounds k u := by simp [Array.zipIdx]
    rw [show (fun (cs : Array Value) (x : Value × Nat) => match x with | (c, j) => cs.setIfInBounds (k + j) c) = fun cs (x : Value × Nat) => cs.setIfInBounds (k + x.2) x.1 from rfl, hz]
    simp only [Nat.mul_one] at ih
    rw [ih]
    congr 2
    rw [Array.toList_setIfInBounds, List.take_set, List.take_succ_eq_append_getElem (by simpa using hk), List.set_append_right _ _ (by simp; omega)]
    have hl2 : k - min k cells.size = 0 := by omega
    simp [hl2]

section
variable {P : Program} {ops : Array Oper} {rest : List Oper} {o : Oper} {a : Act} {Q : Exit → Act → World → Prop} {w : World} {t e : TypeId} {z : Value} {bytes : Nat}
theorem run_buildSlice (E : El P t e z bytes) (us : List Value) (arr : Array (Nat × Value)) (harr : arr.toList = (us.zipIdx 0).map fun p => (p.2, p.1)) (hone : ∀ u ∈ us, u.cells = #[u]) (n : Nat) (hn : n = us.length) (hs : n ≤ 1000000) (w : World) :
    (Instr.buildSlice t n arr).run P w = .ok (.slice (some ⟨w.heap.size, 0, none⟩) n n) (w.alloc (.cells us.toArray e)) := by
  subst hn
  obtain ⟨i0, hi0, hz, hsz, _⟩ := E.info
  have hu := E.hu
  have hf := fun (zs : Array Value) (hzs : us.length = zs.size) => fill_ok us 0 zs hone (by simpa using hzs)
  simp only [List.take_zero, List.nil_append] at hf
  simp only [Nat.mul_one] at hf
  unfold Instr.buildSlice
  by_cases h0 : us.length = 0
  · simp [run_underlying hu, sizeOf, typeInfo, hi0, hsz, h0]
    rw [harr, hf _ (by simp [h0])]
    simp [newRow]
  · simp [run_underlying hu, sizeOf, typeInfo, hi0, hsz, h0, show ¬ 16777216 < us.length by omega, zeroValue, hz]
    rw [harr, hf _ (by simp)]
    simp [newRow]
theorem w_build (E : El P t e z bytes) (n : Nat) (ps : Array (Nat × Operand)) (us : List Value) (hgd : o.guard = none) (ho : o.op = .buildSlice t n ps) (hps : (ps.toList.map fun x => (x.1, a.eval x.2)) = (us.zipIdx 0).map fun p => (p.2, p.1))
    (hone : ∀ u ∈ us, u.cells = #[u]) (hn : n = us.length) (hs : n ≤ 1000000)
    (k : wpList P ops Q rest (a.put o.dst (.slice (some ⟨w.heap.size, 0, none⟩) n n)) (w.alloc (.cells us.toArray e))) : wpList P ops Q (o :: rest) a w := by
  refine wpList_plain hgd fun K hK => ?_
  unfold Oper.wp execOp
  have hr := run_buildSlice (P := P) E us (ps.map fun x => (x.1, a.eval x.2)) (by rw [Array.toList_map]; exact hps) hone n hn hs w
  simp only [ho]
  rw [show (Instr.buildSlice t n (ps.map fun (i, x) => (i, a.eval x))) = Instr.buildSlice t n (ps.map fun x => (x.1, a.eval x.2)) from rfl]
  simp [hr]
  exact hK _ _ k
end
theorem Sl.oneCell {w : World} {v : Value} {xs : List Value} (h : Sl w v xs) : v.cells = #[v] := by
  obtain ⟨A, c, rfl, _⟩ := h; rfl
theorem Byt.oneCell {w : World} {v : Value} {l : List Nat} (h : Byt w v l) : v.cells = #[v] := Sl.oneCell h
theorem one1 {u : Value} (h : u.cells = #[u]) : ∀ x ∈ [u], x.cells = #[x] := by intro x hx; simp at hx; subst hx; exact h
theorem one2 {u u' : Value} (h : u.cells = #[u]) (h' : u'.cells = #[u']) : ∀ x ∈ [u, u'], x.cells = #[x] := by intro x hx; simp at hx; rcases hx with rfl | rfl <;> assumption
theorem one3 {u u' u2 : Value} (h : u.cells = #[u]) (h' : u'.cells = #[u']) (h2 : u2.cells = #[u2]) : ∀ x ∈ [u, u', u2], x.cells = #[x] := by intro x hx; simp at hx; rcases hx with rfl | rfl | rfl <;> assumption

/-- A new row that holds just us is owned. -/
theorem own_new {w : World} {e : TypeId} (us : List Value) (hs : us.length ≤ 1000000) : (w.alloc (.cells us.toArray e)).ownsRow w.heap.size e 1 (.slice (some ⟨w.heap.size, 0, none⟩) us.length us.length) us.length us := by
  refine ⟨by simp, .inr ⟨w.heap.size, us.length, us.toArray, rfl, Nat.le_refl _, heap_alloc_new w _, Nat.le_refl _, by simp only [maxLen]; omega, by simp, by simp⟩⟩

section
variable {P : Program} {ops : Array Oper} {rest : List Oper} {o : Oper} {a : Act} {Q : Exit → Act → World → Prop} {w : World} {t e : TypeId} {z : Value} {bytes : Nat}
/-- A list written out: the world and the slice under new names. -/
theorem w_new (E : El P t e z bytes) {n : Nat} {ps : Array (Nat × Operand)} (us : List Value) (hgd : o.guard = none) (ho : o.op = .buildSlice t n ps) (hps : (ps.toList.map fun x => (x.1, a.eval x.2)) = (us.zipIdx 0).map fun p => (p.2, p.1))
    (hone : ∀ u ∈ us, u.cells = #[u]) (hn : n = us.length) (hs : n ≤ 1000000)
    (k : ∀ v' w', Ext w w' → w'.ownsRow w.heap.size e 1 v' us.length us → wpList P ops Q rest (a.put o.dst v') w') : wpList P ops Q (o :: rest) a w := by
  refine w_build E n ps us hgd ho hps hone hn hs (k _ _ ((Ext.refl _).alloc _) ?_)
  subst hn; exact own_new us hs
end
theorem u8s_cells (l : List Nat) : ∀ u ∈ u8s l, u.cells = #[u] := by
  intro u hu; simp only [u8s, List.mem_map] at hu; obtain ⟨n, _, rfl⟩ := hu; rfl
/-- Bytes written out. -/
theorem w_bytes {ops : Array Oper} {rest : List Oper} {o : Oper} {a : Act} {Q : Exit → Act → World → Prop} {w : World} {n : Nat} {ps : Array (Nat × Operand)} (l : List Nat) (hgd : o.guard = none) (ho : o.op = .buildSlice 26 n ps)
    (hps : (ps.toList.map fun x => (x.1, a.eval x.2)) = ((u8s l).zipIdx 0).map fun p => (p.2, p.1)) (hn : n = l.length) (hs : n ≤ 1000000)
    (k : ∀ v' w', Ext w w' → OwnB w.heap.size w' v' l → wpList Try.prog ops Q rest (a.put o.dst v') w') : wpList Try.prog ops Q (o :: rest) a w :=
  w_new Try.elB (u8s l) hgd ho hps (u8s_cells l) (by rw [u8s_length]; exact hn) hs fun v' w' hx h => k v' w' hx h
end Go.Proofs.Ytdnppmpgpkpapaa
