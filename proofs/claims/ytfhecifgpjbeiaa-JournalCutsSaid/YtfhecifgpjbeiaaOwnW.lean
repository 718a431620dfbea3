/- Owned slices of records that came in as parameters; a part of a slice of records; what a journal's disk holds, as plain mathematics. -/
import Derived.Test.YtfhecifgpjbeiaaJrn4
namespace Go.Proofs.Ytfhecifgpjbeiaa
open Go.RowKit

/-- An owned slice of records, which are as they were at W. -/
structure OwnW (W w : World) (v : Value) (l : List RecD) : Prop where
  ex : ∃ rows, RowN (fun k => v.ownBlock = some k) w 28 5 v rows ∧ rows.length = l.length ∧ ∀ (k : Nat) (row : List Value) (d : RecD), rows[k]? = some row → l[k]? = some d → RecR W row d
  new : ∀ k, v.ownBlock = some k → W.heap.size ≤ k
section
variable {W w w' : World} {v v' : Value} {l : List RecD}
theorem OwnW.ext (h : OwnW W w v l) (he : Ext w w') : OwnW W w' v l := by
  obtain ⟨⟨rows, h1, h2, h3⟩, h4⟩ := h
  exact ⟨⟨rows, h1.ext he, h2, h3⟩, h4⟩
theorem OwnW.mod {G : Nat → Prop} (h : OwnW W w v l) (hm : Mod G w w') (hG : ∀ k, v.ownBlock = some k → ¬ G k) : OwnW W w' v l := by
  obtain ⟨⟨rows, h1, h2, h3⟩, h4⟩ := h
  exact ⟨⟨rows, h1.mod hm hG, h2, h3⟩, h4⟩
theorem OwnW.lt (h : OwnW W w v l) {k : Nat} (hk : v.ownBlock = some k) : k < w.heap.size := by
  obtain ⟨⟨rows, h1, _⟩, _⟩ := h; exact h1.lt hk
theorem OwnW.recs (h : OwnW W w v l) (hx : Ext W w) : Recs 5 RecR w v l := by
  obtain ⟨⟨rows, h1, h2, h3⟩, h4⟩ := h
  exact h1.recs h2 fun k row d hk hd => RecR.stays _ _ _ _ (h3 k row d hk hd) hx
theorem OwnW.empty {F : Nat → Prop} (h : RowN F w 28 5 v []) (hF : ∀ k, F k → W.heap.size ≤ k) : OwnW W w v [] :=
  ⟨⟨[], ⟨h.own, h.each, fun _ h => h⟩, rfl, fun k row d h => by simp at h⟩, fun k hk => hF k (h.inF k hk)⟩
theorem OwnW.app {rows : List (List Value)} {row : List Value} {r : RecD} (hx : W.heap.size ≤ w.heap.size)
    (h2 : rows.length = l.length) (h3 : ∀ (k : Nat) (row : List Value) (d : RecD), rows[k]? = some row → l[k]? = some d → RecR W row d) (h4 : ∀ k, v.ownBlock = some k → W.heap.size ≤ k)
    (hr : RecR W row r) (hn : RowN (grow (fun k => v.ownBlock = some k) w w') w' 28 5 v' (rows ++ [row])) : OwnW W w' v' (l ++ [r]) := by
  refine ⟨⟨rows ++ [row], ⟨hn.own, hn.each, fun _ h => h⟩, by simp [h2], fun k row' d hk hd => ?_⟩, fun k hk => ?_⟩
  · by_cases hkl : k < rows.length
    · rw [List.getElem?_append_left hkl] at hk
      rw [List.getElem?_append_left (by omega)] at hd
      exact h3 k row' d hk hd
    · rw [List.getElem?_append_right (by omega)] at hk
      rw [List.getElem?_append_right (by omega)] at hd
      have e : k - rows.length = 0 := by
        have := (List.getElem?_eq_some_iff.1 hk).1; simp at this; omega
      rw [← h2, e] at hd
      rw [e] at hk
      simp at hk hd
      subst hk hd
      exact hr
  · rcases hn.inF k hk with h | h
    · exact h4 k h
    · omega
/-- Where its new block lies. -/
theorem RowN.off {F : Nat → Prop} {e : TypeId} {n : Nat} {rows : List (List Value)} (hn : RowN (grow (fun k => v.ownBlock = some k) w w') w' e n v' rows) (hF : ∀ k, F k → k < w.heap.size) (hd : ∀ k, v.ownBlock = some k → ¬ F k) : ∀ k, v'.ownBlock = some k → ¬ F k := fun k hk h => by
  rcases hn.inF k hk with h1 | h1
  · exact hd k h1 h
  · have := hF k h; omega
end
section
variable {P : Program} {ops : Array Oper} {rest : List Oper} {o : Oper} {a : Act} {Q : Exit → Act → World → Prop} {w : World} {v : Value} {t e : TypeId} {α : Type} {n : Nat} {R : World → List Value → α → Prop} {l : List α}
theorem runs_nto {ρ : Operand → Value} (E : ElS P t e n) (x y : Operand) (j : Nat) (ho : o.op = .slice t x none (some y) none) (hv : ρ x = v) (hy : ρ y = .int .i64 j) (h : Recs n R w v l) (hj : j ≤ l.length) :
    ∃ v', Runs P o ρ w v' ∧ Recs n R w v' (l.take j) := by
  obtain ⟨rows, ⟨A, c, rfl, h1, h2, h3⟩, hl, h4⟩ := h
  obtain ⟨i0, hi0, hsz⟩ := E.info
  have hu := E.hu
  have b1 : (Instr.sliceBound (.int .i64 (j : Int)) c .sliceAcap).run P w = .ok j w := by
    have : j ≤ c := by omega
    simp [Instr.sliceBound, go_sem]; omega
  refine ⟨.slice A j c, ?_, ⟨rows.take j, ⟨A, c, by simp; omega, by simp; omega, h2, fun k row hk => ?_⟩, by simp; omega, fun k row d hk hd => ?_⟩⟩
  · unfold Runs execOp
    have hA : (A.map fun x : Addr => x.add 0) = A := by cases A <;> simp [Addr.add_zero']
    simp [ho, hv, hy, Instr.sliceAt, Instr.slice, run_underlying hu, Instr.sliceBounds, sizeOf, typeInfo, hi0, b1, Addr.add_zero']
  · rw [List.getElem?_take] at hk
    split at hk
    · exact h3 k row hk
    · cases hk
  · rw [List.getElem?_take] at hk hd
    split at hk
    · rename_i hlt
      rw [if_pos hlt] at hd
      exact h4 k row d hk hd
    · cases hk
/-- v[:j] of a slice of records -/
theorem w_nto (E : ElS P t e n) (x y : Operand) (j : Nat) (hgd : o.guard = none) (ho : o.op = .slice t x none (some y) none) (hv : a.eval x = v) (hy : a.eval y = .int .i64 j) (h : Recs n R w v l) (hj : j ≤ l.length)
    (k : ∀ v', Recs n R w v' (l.take j) → wpList P ops Q rest (a.put o.dst v') w) : wpList P ops Q (o :: rest) a w := by
  obtain ⟨v', h1, h2⟩ := runs_nto E x y j ho hv hy h hj
  exact wpList_runs hgd h1 (k v' h2)
end

/-! ### What a journal's disk holds -/
theorem cat_append (l m : List RecD) : cat (l ++ m) = cat l ++ cat m := by simp [cat]
theorem cat_mono (l : List RecD) {a b : Nat} (h : a ≤ b) : (cat (l.take a)).length ≤ (cat (l.take b)).length := by
  have e : l.take b = l.take a ++ (l.take b).drop a := by
    conv => lhs; rw [← List.take_append_drop a (l.take b)]
    rw [List.take_take, Nat.min_eq_left h]
  rw [e, cat_append, List.length_append]; omega
theorem cat_le (l : List RecD) (h : ∀ r ∈ l, r.Ok) : (cat l).length ≤ 1048 * l.length := by
  induction l with
  | nil => simp [cat]
  | cons r l ih =>
    have h1 := r.bs_len2 (h r (List.mem_cons_self ..))
    have h2 := ih fun x hx => h x (List.mem_cons_of_mem _ hx)
    rw [cat_cons, List.length_append, List.length_cons]; omega
theorem cat_lt (l : List RecD) (h : ∀ r ∈ l, r.Ok ∧ ∀ x ∈ r.t, x < 256) : ∀ x ∈ cat l, x < 256 := by
  induction l with
  | nil => simp [cat]
  | cons r l ih =>
    intro x hx
    rw [cat_cons] at hx
    obtain ⟨h1, h2⟩ := h r (List.mem_cons_self ..)
    rcases List.mem_append.1 hx with hx | hx
    · rw [r.bs_eq h1] at hx
      have hl := r.pay_len h1
      rcases List.mem_append.1 hx with hx | hx
      · exact numL_lt256 _ x hx
      · rw [RecD.pay] at hx
        rcases List.mem_append.1 hx with hx | hx
        · exact nuL_lt _ x hx
        · rw [txL_small (by have := h1.2.2.2.2; omega)] at hx
          rcases List.mem_append.1 hx with hx | hx
          · exact numL_lt256 _ x hx
          · exact h2 x hx
    · exact ih (fun y hy => h y (List.mem_cons_of_mem _ hy)) x hx
/-- On the disk D there are just the records dl, the first so many of them synced. -/
structure JInv (D : DSt) (dl : List RecD) (safe : Nat) : Prop where
  l : D.l = cat dl
  ok : ∀ r ∈ dl, r.Ok ∧ ∀ x ∈ r.t, x < 256
  sf : safe ≤ dl.length
  s : D.s = (cat (dl.take safe)).length
theorem jAdd_no {D : DSt} {r : RecD} (h : jAddE D r ≠ 0) : jAdd D r = D := by
  unfold jAddE at h; unfold jAdd
  by_cases hr : r.Ok
  · rw [if_pos hr] at h ⊢
    unfold DSt.err at h; unfold DSt.app
    split at h
    · exact absurd rfl h
    · rename_i hb; rw [if_neg hb]
  · rw [if_neg hr]
theorem jAdd_yes {D : DSt} {r : RecD} (h : jAddE D r = 0) : r.Ok ∧ jAdd D r = { D with l := D.l ++ r.bs } := by
  unfold jAddE at h; unfold jAdd
  by_cases hr : r.Ok
  · rw [if_pos hr] at h ⊢
    unfold DSt.err at h; unfold DSt.app
    split at h
    · rename_i hb; rw [if_pos hb]; exact ⟨hr, rfl⟩
    · omega
  · rw [if_neg hr] at h; omega
theorem JInv.lt {D : DSt} {dl : List RecD} {safe : Nat} (h : JInv D dl safe) : ∀ x ∈ D.l, x < 256 := by rw [h.l]; exact cat_lt dl h.ok
theorem JInv.add {D : DSt} {dl : List RecD} {safe : Nat} (h : JInv D dl safe) {r : RecD} (he : jAddE D r = 0) (ht : ∀ x ∈ r.t, x < 256) : JInv (jAdd D r) (dl ++ [r]) safe := by
  obtain ⟨h1, h2⟩ := jAdd_yes he
  rw [h2]
  refine ⟨by rw [cat_snoc, ← h.l], fun x hx => ?_, by have := h.sf; simp; omega, ?_⟩
  · rcases List.mem_append.1 hx with hx | hx
    · exact h.ok x hx
    · rw [List.mem_singleton] at hx; subst hx; exact ⟨h1, ht⟩
  · rw [List.take_append_of_le_length h.sf]; exact h.s
theorem JInv.sync {D : DSt} {dl : List RecD} {safe : Nat} (h : JInv D dl safe) : JInv D.sync dl dl.length :=
  ⟨h.l, h.ok, Nat.le_refl _, by rw [List.take_length]; show D.l.length = _; rw [h.l]⟩
/-- Behind a crash: what was synced is found, and of what was written behind some, from the first one on. -/
theorem JInv.crash {D : DSt} {dl : List RecD} {safe : Nat} (h : JInv D dl safe) (n : Int) : ∃ kk, safe ≤ kk ∧ kk ≤ dl.length ∧ recs (D.crash n).l = dl.take kk := by
  obtain ⟨kk, h1, h2, _, h4⟩ := recs_take dl (fun r hr => (h.ok r hr).1) (D.s + bet n (D.l.length - D.s))
  refine ⟨kk, ?_, h1, ?_⟩
  · rcases Nat.lt_or_ge kk safe with hk | hk
    · exfalso
      have := h4 (by have := h.sf; omega)
      have h5 := cat_mono dl (show kk + 1 ≤ safe by omega)
      have := h.s
      omega
    · exact hk
  · show recs (D.l.take _) = _
    rw [h.l] at h2 ⊢; exact h2
end Go.Proofs.Ytfhecifgpjbeiaa
