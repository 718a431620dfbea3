/- What a second block of one name does, and what stays, as plain mathematics; lists that a call made, beside a tree. -/
import Derived.Test.YtdacclcaopmalaaTLm
namespace Go.Proofs.Ytdacclcaopmalaa
set_option maxRecDepth 100000
open Go.RowKit

theorem OwnI.safe {G : Nat → Prop} {base : Nat} {w : World} {v : Value} {l : List Int} (h : OwnI base w v l) (hG : ∀ k, G k → k < base) : Safe G w v (i64s l) :=
  ⟨h.ints, fun k hk hg => by have := (own_block_lt (g := k) h hk).1; have := hG k hg; omega, fun k hk => (own_block_lt (g := k) h hk).2⟩
theorem TrW.trim {G : Nat → Prop} {w : World} {p : Nat} {K V : List BlkD} (h : TrW G w p K V) : TrW (fun k => G k ∧ k < w.heap.size) w p K V := by
  obtain ⟨X, g, v, h1, h2, h3, h4, h5⟩ := h
  have l := h1.lts
  exact ⟨X, g, v, h1, fun k hk => ⟨⟨(h2 k hk).1, (h2 k hk).2⟩, (h2 k hk).2⟩, ⟨h3, l.1⟩, ⟨h4, l.2.1⟩, fun k hk => ⟨h5 k hk, l.2.2 k hk⟩⟩
/-- &l[i] of what a law is handed: its transactions as they were. -/
theorem w_lidx0 {P : Program} {ops : Array Oper} {rest : List Oper} {o : Oper} {a : Act} {Q : Exit → Act → World → Prop} {w W0 : World} {t e : TypeId} {v : Value} {l : List BlkD} (E : ElS P t e 5) (x y : Operand) (i : Nat) (hgd : o.guard = none) (ho : o.op = .indexAddr t x y) (hv : a.eval x = v) (hy : a.eval y = .int .i64 i)
    (h : Recs 5 BlkL W0 v l) (he : Ext W0 w) {d : BlkD} (hd : l[i]? = some d) (k : ∀ p u, RowAt w p (bRow d u) → Recs 2 TxR W0 u d.txs → wpList P ops Q rest (a.put o.dst (.pointer (some p))) w) : wpList P ops Q (o :: rest) a w := by
  have hi := (List.getElem?_eq_some_iff.1 hd).1
  have e : l[i] = d := (List.getElem?_eq_some_iff.1 hd).2
  refine w_ridx0 E x y i BlkL.stays hgd ho hv hy h he hi ?_
  rintro pa row hrow _ ⟨⟨⟨u, rfl, hu⟩, _⟩, _⟩
  rw [e] at hrow hu
  exact k pa u (hrow.ext he) hu
section
variable {t : TrS} {d : BlkD}
theorem add_known (h : TrS.Good t) : ∃ n, (TrS.add t d).1.known = t.known ++ n ∧ (TrS.add t d).2.1 = n.map BlkD.name := (h.add (b := d) right_or).2.1
theorem add_good (h : TrS.Good t) : TrS.Good (TrS.add t d).1 := (h.add (b := d) right_or).1
theorem add_has (h : TrS.Good t) (hok : (TrS.add t d).2.2 = true) : TrS.has (TrS.add t d).1.known d.name = true ∨ TrS.has (TrS.add t d).1.wait d.name = true := by
  obtain ⟨K, V⟩ := t
  by_cases hc : d.name = 0 ∨ TrS.has K d.name = true ∨ TrS.has V d.name = true
  · rw [add_c1 hc] at hok; cases hok
  cases hr : TrS.ready K d
  · rw [add_c2 hc hr]
    refine .inr (TrS.has_iff.2 ⟨d, ?_, rfl⟩)
    unfold pushQ
    split
    · rename_i hl
      cases V with
      | nil => simp at hl
      | cons x V => simp
    · simp
  · by_cases hk : K.length < 400
    · have hg := (h.add (b := d) right_or).2.1
      obtain ⟨n, h1, h2⟩ := hg
      have h3 := h2
      rw [add_c4 hc hr hk] at h3
      cases n with
      | nil => simp at h3
      | cons x n =>
        rw [h1]
        refine .inl (TrS.has_iff.2 ⟨x, by simp, ?_⟩)
        simp at h3
        exact h3.1.symm
    · rw [add_c3 hc hr hk] at hok; cases hok
theorem add_twice (h : TrS.Good t) : TrS.add (TrS.add t d).1 d = ((TrS.add t d).1, [], false) := by
  cases hok : (TrS.add t d).2.2
  · obtain ⟨h1, h2⟩ := (h.add (b := d) right_or).2.2 hok
    rw [h1]
    have e : TrS.add t d = ((TrS.add t d).1, (TrS.add t d).2.1, (TrS.add t d).2.2) := rfl
    rw [e, h1, h2, hok]
  · have := add_has h hok
    exact if_pos (.inr this)
theorem add_names_len (h : TrS.Good t) : (TrS.names (TrS.add t d).1.known).length = (TrS.names t.known).length + (TrS.add t d).2.1.length := by
  obtain ⟨n, h1, h2⟩ := add_known (d := d) h
  rw [(add_good h).names_len, h.names_len, h1, h2]; simp
theorem tip_or (h : TrS.Good t) : TrS.tip t.known = 0 ∨ ∃ c ∈ t.known, c.name = TrS.tip t.known := h.uq.tip.mem.imp And.left id
theorem add_path (h : TrS.Good t) : TrS.path (TrS.add t d).1.known (TrS.tip t.known) = TrS.path t.known (TrS.tip t.known) := by
  obtain ⟨n, h1, _⟩ := add_known (d := d) h
  rcases tip_or h with h0 | ⟨c, hc, hn⟩
  · rw [h0, (add_good h).uq.path_zero, h.uq.path_zero]
  · rw [← hn]
    exact h.uq.path_mono (add_good h).uq h.stood (fun x hx => by rw [h1]; exact List.mem_append_left _ hx) c hc
theorem add_high (h : TrS.Good t) : TrS.height t.known (TrS.tip t.known) ≤ TrS.height (TrS.add t d).1.known (TrS.tip (TrS.add t d).1.known) := by
  obtain ⟨n, h1, _⟩ := add_known (d := d) h
  have hs : ∀ x ∈ t.known, x ∈ (TrS.add t d).1.known := fun x hx => by rw [h1]; exact List.mem_append_left _ hx
  rcases tip_or h with h0 | ⟨c, hc, hn⟩
  · rw [h0, TrS.height_zero]
    rcases tip_or (t := (TrS.add t d).1) (add_good h) with g0 | ⟨c, hc, hn⟩
    · rw [g0, TrS.height_zero]; exact Int.le_refl _
    · rw [← hn]; exact Int.le_of_lt ((add_good h).uq.height_pos hc)
  · rw [← hn, ← height_mono h.uq (add_good h).uq h.stood hs hc]
    rcases (add_good h).uq.tip.top c (hs c hc) with e | ⟨e, _⟩ <;> omega
theorem add_keeps (h : TrS.Good t) {n : Int} (hn : n ∈ TrS.names t.known) : TrS.has (TrS.add t d).1.known n = true := by
  obtain ⟨m, h1, _⟩ := add_known (d := d) h
  obtain ⟨c, hc, hcn⟩ := TrS.mem_names.1 hn
  exact TrS.has_iff.2 ⟨c, by rw [h1]; exact List.mem_append_left _ hc, hcn⟩
theorem tip_i64 (h : TrS.Good t) : I64 (TrS.tip t.known) := by
  rcases tip_or h with h0 | ⟨c, hc, hn⟩
  · rw [h0]; exact ⟨by omega, by omega⟩
  · rw [← hn]; exact (h.uq.right c hc).i64
end
end Go.Proofs.Ytdacclcaopmalaa
