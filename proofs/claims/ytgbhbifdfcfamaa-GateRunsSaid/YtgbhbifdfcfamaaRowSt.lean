/- v[i].f and v[i].f = u, where the call owns v, a slice of records of n one-cell fields. -/
import Derived.Test.YtgbhbifdfcfamaaFB
namespace Go.Proofs.Ytgbhbifdfcfamaa
set_option maxRecDepth 100000
open Go.RowKit

theorem addr_add_off (g i j : Nat) : (⟨g, i, none⟩ : Addr).add j = ⟨g, i + j, none⟩ := by
  unfold Addr.add; split <;> simp_all
theorem flat_set {n : Nat} : ∀ {rows : List (List Value)}, (∀ row ∈ rows, row.length = n) → ∀ (i j : Nat) (u : Value) (hi : i < rows.length), j < n → (rows.set i (rows[i].set j u)).flatten = rows.flatten.set (i * n + j) u
  | [], _, i, j, u, hi, _ => by simp at hi
  | r :: rs, h, 0, j, u, _, hj => by
    have hr := h r (List.mem_cons_self ..)
    simp only [List.set_cons_zero, List.getElem_cons_zero, List.flatten_cons, Nat.zero_mul, Nat.zero_add]
    rw [List.set_append_left _ _ (by omega)]
  | r :: rs, h, i + 1, j, u, hi, hj => by
    have hr := h r (List.mem_cons_self ..)
    simp only [List.set_cons_succ, List.getElem_cons_succ, List.flatten_cons]
    rw [flat_set (fun x hx => h x (List.mem_cons_of_mem _ hx)) i j u (by simpa using hi) hj, List.set_append_right _ _ (by rw [hr, Nat.add_mul]; omega), hr, show (i + 1) * n + j - n = i * n + j from by rw [Nat.add_mul]; omega]
section
variable {P : Program} {ops : Array Oper} {rest : List Oper} {o : Oper} {a : Act} {Q : Exit → Act → World → Prop} {F : Nat → Prop} {w : World} {v : Value} {rows : List (List Value)} {t e : TypeId} {n : Nat}
theorem rowN_at (h : RowN F w e n v rows) {i : Nat} (hi : i < rows.length) : ∃ g cap, v = .slice (some ⟨g, 0, none⟩) rows.length cap ∧ RowAt w ⟨g, i * n, none⟩ rows[i] ∧ ∀ j, w.frozen? ⟨g, i * n + j, none⟩ = false ∧
    ∀ u, j < n → (w.setCell ⟨g, i * n + j, none⟩ u).ownsRow 0 e n v rows.length (rows.flatten.set (i * n + j) u) := by
  have h' := h.own
  obtain ⟨hl, hn | ⟨g, cap, cur, hv, hb, hg, h1, h2, hs, ht⟩⟩ := h.own
  · obtain ⟨_, h0⟩ := hn; omega
  · refine ⟨g, cap, hv, fun j u hj => ?_, fun j => ⟨?_, fun u hj => ?_⟩⟩
    · rw [addr_add_off]
      have := h'.cells (g := g) (by rw [hv]; rfl) (i * n + j) u (flat_get h.each i j _ u (List.getElem?_eq_getElem hi) hj)
      rw [add_zero_off] at this; exact this
    · unfold World.frozen?; rw [hg]; simp
    · have hlt : i * n + j < rows.length * n := by
        have : (i + 1) * n ≤ rows.length * n := Nat.mul_le_mul_right n hi
        rw [Nat.add_mul] at this; omega
      refine ⟨by simpa using hl, .inr ⟨g, cap, cur.setIfInBounds (i * n + j) u, hv, hb, ?_, h1, h2, by simpa using hs, ?_⟩⟩
      · simp [World.setCell, Array.getElem?_modify, hg]
      · rw [Array.toList_setIfInBounds, List.take_set, ht]
/-- &v[i], v owned. -/
theorem w_nidx (E : ElS P t e n) (x y : Operand) {i : Nat} (hgd : o.guard = none) (ho : o.op = .indexAddr t x y) (hv : a.eval x = v) (hy : a.eval y = .int .i64 i) (h : RowN F w e n v rows) (hi : i < rows.length)
    (k : ∀ g, v.ownBlock = some g → RowAt w ⟨g, i * n, none⟩ rows[i] → wpList P ops Q rest (a.put o.dst (.pointer (some ⟨g, i * n, none⟩))) w) : wpList P ops Q (o :: rest) a w := by
  obtain ⟨g, cap, hv', hr, _⟩ := rowN_at h hi
  obtain ⟨i0, hi0, hsz⟩ := E.info
  have hu := E.hu
  have key : ∀ ρ : Operand → Value, ρ x = .slice (some ⟨g, 0, none⟩) rows.length cap → ρ y = .int .i64 i → Runs P o ρ w (.pointer (some ⟨g, i * n, none⟩)) := fun ρ hv hy => by
    unfold Runs execOp
    simp [ho, hv, hy, Instr.indexAt, run_underlying hu, sizeOf, typeInfo, hi0, hsz, go_sem, hi]
  exact wpList_runs hgd (key _ (hv.trans hv') hy) (k g (by rw [hv']; rfl) hr)
/-- v[i].f = u, v owned. -/
theorem w_nstore {ty : TypeId} (x y : Operand) {u : Value} {g i j : Nat} (hgd : o.guard = none) (ho : o.op = .store ty x y) (hd : o.dst = none) (hx : a.eval x = .pointer (some ((⟨g, i * n, none⟩ : Addr).add j))) (hy : a.eval y = u) (h1 : u.oneCell' = true)
    (hs : (P.info? ty).map (·.size) = some 1) (h : RowN F w e n v rows) (hg : v.ownBlock = some g) (hi : i < rows.length) (hj : j < n)
    (k : ∀ w', Mod (fun k => k = g) w w' → RowN F w' e n v (rows.set i (rows[i].set j u)) → wpList P ops Q rest a w') : wpList P ops Q (o :: rest) a w := by
  obtain ⟨g', cap, hv', hr, hrest⟩ := rowN_at h hi
  obtain rfl : g' = g := by rw [hv'] at hg; simpa [Value.ownBlock] using hg
  obtain ⟨hf, hset⟩ := hrest j
  have hrl := h.each _ (List.getElem_mem hi)
  have hc := hr j _ (List.getElem?_eq_getElem (by omega))
  rw [addr_add_off] at hx hc
  cases hq : P.info? ty with
  | none => rw [hq] at hs; simp at hs
  | some i0 =>
    have hsz : i0.size = 1 := by simpa [hq] using hs
    refine wpList_plain hgd fun K hK => ?_
    have hr := run_store_one (P := P) hq hsz (oneCell_cells h1) h1 hc hf
    have hk := hK _ _ (k _ (Mod.setCell w ⟨g', i * n + j, none⟩ u) ⟨?_, ?_, h.inF⟩)
    · unfold Oper.wp execOp
      simp only [ho, hx, hy, Sem.run_bind, hr, Result.andThen_ok, Sem.run_pure, Oper.upon, hd, Act.put]
      exact hk
    · rw [List.length_set, flat_set h.each i j u hi hj]; exact hset u hj
    · intro row hrow
      rcases List.mem_or_eq_of_mem_set hrow with hm | rfl
      · exact h.each row hm
      · rw [List.length_set]; exact hrl
end
end Go.Proofs.Ytgbhbifdfcfamaa
