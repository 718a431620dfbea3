/- A store into a slice that the call owns. -/
import Derived.Test.YtdnppmpgpkpapaaBuild
namespace Go.Proofs.Ytdnppmpgpkpapaa
open Go.RowKit

theorem add_zero_off (g i : Nat) : (⟨g, 0, none⟩ : Addr).add i = ⟨g, i, none⟩ := by unfold Addr.add; split <;> simp_all

section
variable {w : World} {base : Nat} {e : TypeId} {v : Value} {xs : List Value}
/-- The address of a place of an owned slice. -/
theorem own_at (h : w.ownsRow base e 1 v xs.length xs) {i : Nat} (hi : i < xs.length) :
    ∃ g cap, v = .slice (some ⟨g, 0, none⟩) xs.length cap ∧ base ≤ g ∧ g < w.heap.size ∧ w.cell? ⟨g, i, none⟩ = some xs[i] ∧ w.frozen? ⟨g, i, none⟩ = false ∧ ∀ u, (w.setCell ⟨g, i, none⟩ u).ownsRow base e 1 v (xs.set i u).length (xs.set i u) := by
  have h' := h
  obtain ⟨hl, hn | ⟨g, cap, cur, hv, hb, hg, h1, h2, hs, ht⟩⟩ := h
  · obtain ⟨_, h0⟩ := hn; omega
  · have hgl : g < w.heap.size := (Array.getElem?_eq_some_iff.1 hg).1
    have hadd := add_zero_off g i
    refine ⟨g, cap, hv, hb, hgl, ?_, ?_, fun u => ?_⟩
    · have := h'.cells (g := g) (by rw [hv]; rfl) i _ (List.getElem?_eq_getElem hi)
      simpa [hadd] using this
    · unfold World.frozen?; rw [hg]; simp
    · refine ⟨by simp, .inr ⟨g, cap, cur.setIfInBounds i u, by rw [List.length_set]; exact hv, hb, ?_, by rw [List.length_set]; exact h1, h2, by simpa using hs, ?_⟩⟩
      · simp [World.setCell, Array.getElem?_modify, hg]
      · simp only [Nat.mul_one, List.length_set] at ht ⊢
        rw [Array.toList_setIfInBounds, List.take_set, ht]
end

section
variable {P : Program} {ops : Array Oper} {rest : List Oper} {o : Oper} {a : Act} {Q : Exit → Act → World → Prop} {w : World} {t e : TypeId} {z : Value} {bytes : Nat}
theorem run_store_one {i0 : TypeInfo} (hi0 : P.info? e = some i0) (hs : i0.size = 1) {g i : Nat} {u u0 : Value} (hu : u.cells = #[u]) (h1 : u.oneCell' = true) (hc : w.cell? ⟨g, i, none⟩ = some u0) (hf : w.frozen? ⟨g, i, none⟩ = false) :
    (Instr.storeAt e (.pointer (some ⟨g, i, none⟩)) u).run P w = .ok () (w.setCell ⟨g, i, none⟩ u) := by
  have h := run_storeCells_cells (P := P) g i [u] 0 w (fun j hj => by
    obtain rfl : j = 0 := by simpa using hj
    simp [hc]) (fun j hj => by
    obtain rfl : j = 0 := by simpa using hj
    simpa using hf) (by simpa using h1)
  unfold Instr.storeAt storeVar
  rw [hu]
  simp only [Instr.sureAddr, Sem.run_bind, Sem.run_pure, Result.andThen_ok, sizeOf, typeInfo]
  simpa [hi0, hs, World.setCells] using h

theorem runs_oidx (E : El P t e z bytes) {ρ : Operand → Value} (x y : Operand) {v : Value} {g n c i : Nat} (ho : o.op = .indexAddr t x y) (hv : ρ x = v) (hv' : v = .slice (some ⟨g, 0, none⟩) n c) (hy : ρ y = .int .i64 i) (hi : i < n) :
    Runs P o ρ w (.pointer (some ⟨g, i, none⟩)) := by
  subst hv'
  obtain ⟨i0, hi0, _, hsz, _⟩ := E.info
  have hu := E.hu
  unfold Runs execOp
  simp [ho, hv, hy, Instr.indexAt, run_underlying hu, sizeOf, typeInfo, hi0, hsz, go_sem, hi]
/-- v[i] = u, where the call owns v: the index and the store. -/
theorem w_oidx (E : El P t e z bytes) (x y : Operand) {base : Nat} {v : Value} {xs : List Value} {i : Nat} (hgd : o.guard = none) (ho : o.op = .indexAddr t x y) (hv : a.eval x = v) (hown : w.ownsRow base e 1 v xs.length xs) (hy : a.eval y = .int .i64 i) (hi : i < xs.length)
    (k : ∀ g, v.ownBlock = some g → base ≤ g → g < w.heap.size → wpList P ops Q rest (a.put o.dst (.pointer (some ⟨g, i, none⟩))) w) : wpList P ops Q (o :: rest) a w := by
  obtain ⟨g, cap, hv', hb, hg, hc, hf, _⟩ := own_at hown hi
  exact wpList_runs hgd (runs_oidx E x y ho hv hv' hy hi) (k g (by rw [hv']; rfl) hb hg)
theorem w_ostore (E : El P t e z bytes) (x y : Operand) {base : Nat} {v u : Value} {xs : List Value} {g i : Nat} (hgd : o.guard = none) (ho : o.op = .store e x y) (hd : o.dst = none) (hx : a.eval x = .pointer (some ⟨g, i, none⟩)) (hy : a.eval y = u) (hu : u.cells = #[u]) (h1 : u.oneCell' = true)
    (hown : w.ownsRow base e 1 v xs.length xs) (hg : v.ownBlock = some g) (hi : i < xs.length)
    (k : ∀ w', Below base w w' → w'.ownsRow base e 1 v (xs.set i u).length (xs.set i u) → wpList P ops Q rest a w') : wpList P ops Q (o :: rest) a w := by
  obtain ⟨g', cap, hv', hb, hgs, hc, hf, hset⟩ := own_at hown hi
  obtain rfl : g' = g := by rw [hv'] at hg; simpa [Value.ownBlock] using hg
  obtain ⟨i0, hi0, _, hsz, _⟩ := E.info
  refine wpList_plain hgd fun K hK => ?_
  have hr := run_store_one (P := P) hi0 hsz hu h1 hc hf
  have hk := hK _ _ (k _ ((Below.refl _ _).setCell (p := ⟨g', i, none⟩) hb u) (hset u))
  unfold Oper.wp execOp
  simp only [ho, hx, hy, Sem.run_bind, hr, Result.andThen_ok, Sem.run_pure, Oper.upon, hd, Act.put]
  exact hk
end
end Go.Proofs.Ytdnppmpgpkpapaa
