/- The document's tree of blocks: what lies where, while one more is added. -/
import Derived.Test.YtdacclcaopmalaaTDb
namespace Go.Proofs.Ytdacclcaopmalaa
set_option maxRecDepth 100000
open Go.RowKit Go.ChangeShapes Go.WideShapes Go.ChangeAt

/-! ### One pass over those that wait, as plain mathematics -/
def passF (K : List BlkD) (o : List Int) (l : List BlkD) : List BlkD × List BlkD × List Int × Bool :=
  match TrS.pick K l with
  | none => (K, l, o, false)
  | some (x, r) => if K.length < 400 then (K ++ [x], r, o ++ [x.name], true) else (K, r, o, true)
theorem pick_snoc {K : List BlkD} {y : BlkD} : ∀ {l : List BlkD}, TrS.pick K (l ++ [y]) = match TrS.pick K l with
    | some (x, r) => some (x, r ++ [y])
    | none => if TrS.ready K y = true then some (y, l) else none
  | [] => by simp [TrS.pick]
  | x :: l => by
    have ih := pick_snoc (K := K) (y := y) (l := l)
    simp only [List.cons_append, TrS.pick]
    by_cases hx : TrS.ready K x = true
    · simp [hx]
    · rw [ih]
      cases hp : TrS.pick K l with
      | none =>
        by_cases hy : TrS.ready K y = true
        · simp [hx, hy]
        · simp [hx, hy]
      | some p => simp [hx]
section
variable {K K2 V R l : List BlkD} {o o2 : List Int} {y : BlkD} {f : Nat} {b : Bool}
theorem passF_no (h : passF K o l = (K2, R, o2, false)) : TrS.pick K l = none ∧ K2 = K ∧ R = l ∧ o2 = o := by
  unfold passF at h
  cases hp : TrS.pick K l with
  | none => rw [hp] at h; simp at h; exact ⟨rfl, h.1.symm, h.2.1.symm, h.2.2.symm⟩
  | some p =>
    rw [hp] at h
    split at h
    · rename_i he; cases he
    · split at h <;> simp at h
theorem passF_keep (h : passF K o l = (K2, R, o2, b)) (hb : b = true ∨ TrS.ready K y = false) : passF K o (l ++ [y]) = (K2, R ++ [y], o2, b) := by
  unfold passF at h ⊢
  rw [pick_snoc]
  cases hp : TrS.pick K l with
  | none =>
    rw [hp] at h
    simp at h
    obtain ⟨rfl, rfl, rfl, rfl⟩ := h
    have hy : TrS.ready K y = false := hb.resolve_left (by simp)
    simp [hy]
  | some p =>
    obtain ⟨x, r⟩ := p
    rw [hp] at h
    simp only at h ⊢
    split at h
    · rename_i hk
      simp at h
      obtain ⟨rfl, rfl, rfl, rfl⟩ := h
      rw [if_pos hk]
    · rename_i hk
      simp at h
      obtain ⟨rfl, rfl, rfl, rfl⟩ := h
      rw [if_neg hk]
theorem passF_take (h : passF K o l = (K2, R, o2, false)) (hy : TrS.ready K y = true) : passF K o (l ++ [y]) = if K.length < 400 then (K ++ [y], l, o ++ [y.name], true) else (K, l, o, true) := by
  obtain ⟨hp, _⟩ := passF_no h
  unfold passF
  rw [pick_snoc, hp]
  simp [hy]
theorem drain_no (h : passF K o V = (K2, R, o2, false)) : TrS.drain f K V o = (K, V, o) := by
  obtain ⟨hp, _⟩ := passF_no h
  cases f with
  | zero => rfl
  | succ f => simp [TrS.drain, hp]
theorem passF_yes (h : passF K o V = (K2, R, o2, true)) : ∃ x, TrS.pick K V = some (x, R) ∧ R.length + 1 = V.length ∧ ∀ f, TrS.drain (f + 1) K V o = TrS.drain f K2 R o2 := by
  unfold passF at h
  cases hp : TrS.pick K V with
  | none => rw [hp] at h; simp at h
  | some p =>
    obtain ⟨x, r⟩ := p
    rw [hp] at h
    have hl := (TrS.pick_some hp).2.length_eq
    simp only at h
    split at h
    · rename_i hk
      simp at h
      obtain ⟨rfl, rfl, rfl⟩ := h
      exact ⟨x, rfl, by simpa using hl.symm, fun f => by simp [TrS.drain, hp, hk]⟩
    · rename_i hk
      simp at h
      obtain ⟨rfl, rfl, rfl⟩ := h
      exact ⟨x, rfl, by simpa using hl.symm, fun f => by simp [TrS.drain, hp, hk]⟩
theorem passF_lens (h : passF K o l = (K2, R, o2, b)) (hK : K.length ≤ 400) : K2.length ≤ 400 ∧ R.length ≤ l.length ∧ o2.length ≤ o.length + 1 := by
  cases b with
  | false => obtain ⟨_, rfl, rfl, rfl⟩ := passF_no h; exact ⟨hK, Nat.le_refl _, Nat.le_succ _⟩
  | true =>
    have hx := passF_yes h
    obtain ⟨x, hp, hl, _⟩ := hx
    unfold passF at h
    rw [hp] at h
    simp only at h
    split at h
    · simp at h; obtain ⟨rfl, rfl⟩ := h; exact ⟨by simp; omega, by omega, by simp⟩
    · simp at h; obtain ⟨rfl, rfl⟩ := h; exact ⟨hK, by omega, by omega⟩
end

/-! ### Slices that stay -/
/-- v reads as l, its records as they were at W0; where there are any they lie in a block of which S holds. -/
def KP (W0 : World) (S : Nat → Prop) (w : World) (v : Value) (l : List BlkD) : Prop :=
  ∃ rows : List (List Value), SlS w v 5 rows ∧ RowsB W0 rows l ∧ (rows ≠ [] → ∀ k, v.ownBlock = some k → S k ∧ k < w.heap.size)
section
variable {W0 w w' : World} {S S' F : Nat → Prop} {v : Value} {l : List BlkD}
theorem KP.recs (h : KP W0 S w v l) (he : Ext W0 w) : Recs 5 BlkR w v l := by
  obtain ⟨rows, h1, h2, _⟩ := h; exact h2.recs h1 he
theorem KP.one (h : KP W0 S w v l) : v.oneCell' = true := by
  obtain ⟨rows, h1, _⟩ := h; exact (slS_cell h1).2
theorem KP.ext (h : KP W0 S w v l) (he : Ext w w') : KP W0 S w' v l := by
  obtain ⟨rows, h1, h2, h3⟩ := h
  exact ⟨rows, h1.ext he, h2, fun hr k hk => ⟨(h3 hr k hk).1, Nat.lt_of_lt_of_le (h3 hr k hk).2 he.size⟩⟩
theorem KP.mod (h : KP W0 S w v l) (hm : Mod F w w') (hS : ∀ k, k < w.heap.size → S k → ¬ F k) : KP W0 S w' v l := by
  obtain ⟨rows, h1, h2, h3⟩ := h
  cases rows with
  | nil =>
    obtain ⟨A, c, rfl, g1, g2, _⟩ := h1
    exact ⟨[], ⟨A, c, rfl, g1, g2, fun k row hk => by simp at hk⟩, h2, fun hr => absurd rfl hr⟩
  | cons r rs => exact ⟨_, h1.mod hm fun k hk => hS k (h3 (by simp) k hk).2 (h3 (by simp) k hk).1, h2, fun hr k hk => ⟨(h3 hr k hk).1, Nat.lt_of_lt_of_le (h3 hr k hk).2 hm.size⟩⟩
theorem KP.mono (h : KP W0 S w v l) (hs : ∀ k, k < w.heap.size → S k → S' k) : KP W0 S' w v l := by
  obtain ⟨rows, h1, h2, h3⟩ := h
  exact ⟨rows, h1, h2, fun hr k hk => ⟨hs k (h3 hr k hk).2 (h3 hr k hk).1, (h3 hr k hk).2⟩⟩
theorem KP.swap (h : KP W0 S w v l) (hm : Mod F w w') (hs : ∀ k, k < w.heap.size → S k → ¬ F k ∧ S' k) : KP W0 S' w' v l := ((h.mono (S' := fun k => ¬ F k ∧ S' k) hs).mod hm fun _ _ h => h.1).mono fun _ _ h => h.2
theorem slS_lt {rows : List (List Value)} (h : SlS w v 5 rows) (hr : rows ≠ []) {k : Nat} (hk : v.ownBlock = some k) : k < w.heap.size := by
  obtain ⟨ad, c, rfl, he, hc⟩ := slS_cells h hr (by omega)
  have hl := flat_len he
  have hpos := List.length_pos_iff.2 hr
  have h0 : 0 < rows.flatten.length := by omega
  have := hc 0 _ (List.getElem?_eq_getElem h0)
  rw [Addr.add_zero'] at this
  have hlt := World.block_lt_of_cell? w _ this
  cases hk
  exact hlt
theorem KP.ofRecs (h : Recs 5 BlkR W0 v l) (he : Ext W0 w) (hS : ∀ k, k < W0.heap.size → S k) : KP W0 S w v l := by
  obtain ⟨rows, h1, h2, h3⟩ := h
  exact ⟨rows, h1.ext he, ⟨h2, h3⟩, fun hr k hk => ⟨hS k (slS_lt h1 hr hk), Nat.lt_of_lt_of_le (slS_lt h1 hr hk) he.size⟩⟩
theorem KP.new {rows : List (List Value)} (h1 : SlS w v 5 rows) (h2 : RowsB W0 rows l) (hS : ∀ k, v.ownBlock = some k → S k) : KP W0 S w v l :=
  ⟨rows, h1, h2, fun hr k hk => ⟨hS k hk, slS_lt h1 hr hk⟩⟩
end
def zero2 : List Value := [.slice none 0 0, .slice none 0 0]
/-- While a block is added: the tree's two slices in g2, the answer's place g4, the names that are known by that, those that still wait. -/
structure St8 (Wr W0 : World) (S : Nat → Prop) (w : World) (g2 g4 : Nat) (vk vw v12 v14 : Value) (K V R : List BlkD) (o : List Int) : Prop where
  f2 : Fs w g2 [vk, vw]
  f4 : Fs w g4 zero2
  kk : KP Wr (fun k => (S k ∨ W0.heap.size ≤ k) ∧ k ≠ g2 ∧ k ≠ g4 ∧ v12.ownBlock ≠ some k ∧ v14.ownBlock ≠ some k) w vk K
  kv : KP Wr (fun k => (S k ∨ W0.heap.size ≤ k) ∧ k ≠ g2 ∧ k ≠ g4 ∧ v12.ownBlock ≠ some k ∧ v14.ownBlock ≠ some k) w vw V
  o12 : OwnI W0.heap.size w v12 o
  n12 : ∀ k, v12.ownBlock = some k → k ≠ g2 ∧ k ≠ g4 ∧ v14.ownBlock ≠ some k
  r14 : ∃ rows : List (List Value), RowN (fun k => v14.ownBlock = some k) w 54 5 v14 rows ∧ RowsB Wr rows R
  n14 : ∀ k, v14.ownBlock = some k → k ≠ g2 ∧ k ≠ g4 ∧ W0.heap.size ≤ k
  ext : Ext W0 w
  er : Ext Wr W0
  hg2 : W0.heap.size ≤ g2
  hg4 : W0.heap.size ≤ g4
  h24 : g2 ≠ g4
section
variable {Wr W0 w w' : World} {S : Nat → Prop} {g2 g4 : Nat} {vk vw v12 v14 : Value} {K V R : List BlkD} {o : List Int}
theorem St8.extr (h : St8 Wr W0 S w g2 g4 vk vw v12 v14 K V R o) : Ext Wr w := h.er.trans h.ext
theorem St8.lt14 (h : St8 Wr W0 S w g2 g4 vk vw v12 v14 K V R o) {k : Nat} (hk : v14.ownBlock = some k) : k < w.heap.size := by
  obtain ⟨rows, h1, _⟩ := h.r14; exact h1.lt hk
theorem St8.extend (h : St8 Wr W0 S w g2 g4 vk vw v12 v14 K V R o) (he : Ext w w') : St8 Wr W0 S w' g2 g4 vk vw v12 v14 K V R o := by
  obtain ⟨rows, h1, h2⟩ := h.r14
  exact ⟨h.f2.ext he, h.f4.ext he, h.kk.ext he, h.kv.ext he, h.o12.ext he, h.n12, ⟨rows, h1.ext he, h2⟩, h.n14, h.ext.trans he, h.er, h.hg2, h.hg4, h.h24⟩
/-- Another slice is the tree's. -/
theorem St8.store {vk1 : Value} {K1 : List BlkD} (h : St8 Wr W0 S w g2 g4 vk vw v12 v14 K V R o) (hk : KP Wr (fun k => (S k ∨ W0.heap.size ≤ k) ∧ k ≠ g2 ∧ k ≠ g4 ∧ v12.ownBlock ≠ some k ∧ v14.ownBlock ≠ some k) w vk1 K1) (hm : Mod (fun k => k = g2) w w') (f : Fs w' g2 [vk1, vw]) : St8 Wr W0 S w' g2 g4 vk1 vw v12 v14 K1 V R o := by
  obtain ⟨rows, h1, h2⟩ := h.r14
  exact ⟨f, h.f4.mod hm fun e => h.h24 e.symm, hk.mod hm fun k _ hs => hs.2.1, h.kv.mod hm fun k _ hs => hs.2.1, own_mod h.o12 hm fun k hk => (h.n12 k hk).1, h.n12, ⟨rows, h1.mod hm fun k hk => (h.n14 k hk).1, h2⟩, h.n14, hm.after h.ext (fun i hi => by subst hi; exact h.hg2), h.er, h.hg2, h.hg4, h.h24⟩
/-- One more among those that still wait. -/
theorem St8.rest {v' u : Value} {x : BlkD} {rows : List (List Value)} (h : St8 Wr W0 S w g2 g4 vk vw v12 v14 K V R o) (hB : RowsB Wr rows R) (hm : Mod (fun k => v14.ownBlock = some k) w w') (hr : RowN (grow (fun k => v14.ownBlock = some k) w w') w' 54 5 v' (rows ++ [bRow x u])) (hu : Recs 2 TxR Wr u x.txs) (hx : x.Raw) :
    St8 Wr W0 S w' g2 g4 vk vw v12 v' K V (R ++ [x]) o := by
  have key : ∀ k, v'.ownBlock = some k → v14.ownBlock = some k ∨ w.heap.size ≤ k := fun k hk => Or.elim (hr.inF k hk) .inl fun e => .inr e.1
  have l2 := h.f2.lt; have l4 := h.f4.lt; have hs := h.ext.size
  have hse : ∀ k, k < w.heap.size → ((S k ∨ W0.heap.size ≤ k) ∧ k ≠ g2 ∧ k ≠ g4 ∧ v12.ownBlock ≠ some k ∧ v14.ownBlock ≠ some k) → ¬ v14.ownBlock = some k ∧ ((S k ∨ W0.heap.size ≤ k) ∧ k ≠ g2 ∧ k ≠ g4 ∧ v12.ownBlock ≠ some k ∧ v'.ownBlock ≠ some k) := fun k hk ⟨z, a, b, c, d⟩ => ⟨d, z, a, b, c, fun e => (key k e).elim d fun e => by omega⟩
  refine ⟨h.f2.mod hm fun e => (h.n14 _ e).1 rfl, h.f4.mod hm fun e => (h.n14 _ e).2.1 rfl, h.kk.swap hm hse, h.kv.swap hm hse, own_mod h.o12 hm fun k hk => (h.n12 k hk).2.2, fun k hk => ⟨(h.n12 k hk).1, (h.n12 k hk).2.1, fun e => (key k e).elim (h.n12 k hk).2.2 fun e => ?_⟩, ⟨rows ++ [bRow x u], ⟨hr.own, hr.each, fun k hk => hk⟩, by simp [hB.len], rows_snoc hB.len hB.at_ (Ext.refl _) hu hx⟩, fun k hk => ?_, hm.after h.ext (fun i hi => (h.n14 i hi).2.2), h.er, h.hg2, h.hg4, h.h24⟩
  · have := (own_block_lt (g := k) h.o12 hk).2; omega
  · rcases key k hk with e | e
    · exact h.n14 k e
    · exact ⟨by omega, by omega, by omega⟩
/-- One more name that is known by that. -/
theorem St8.out {v9 : Value} {o9 : List Int} (h : St8 Wr W0 S w g2 g4 vk vw v12 v14 K V R o) (h9 : OwnI W0.heap.size w' v9 o9) (hg : w.grownBy w' v12.ownBlock) (hv : v9.ownBlock = v12.ownBlock ∨ v9.ownBlock = some w.heap.size) : St8 Wr W0 S w' g2 g4 vk vw v9 v14 K V R o9 := by
  have hm := Mod.grown hg
  have key : ∀ k, v9.ownBlock = some k → v12.ownBlock = some k ∨ w.heap.size ≤ k := fun k hk => hv.elim (fun e => .inl (e ▸ hk)) fun e => .inr (by rw [e] at hk; injection hk with hk; omega)
  have l2 := h.f2.lt; have l4 := h.f4.lt; have hs := h.ext.size
  have hse : ∀ k, k < w.heap.size → ((S k ∨ W0.heap.size ≤ k) ∧ k ≠ g2 ∧ k ≠ g4 ∧ v12.ownBlock ≠ some k ∧ v14.ownBlock ≠ some k) → ¬ v12.ownBlock = some k ∧ ((S k ∨ W0.heap.size ≤ k) ∧ k ≠ g2 ∧ k ≠ g4 ∧ v9.ownBlock ≠ some k ∧ v14.ownBlock ≠ some k) := fun k hk ⟨z, a, b, c, d⟩ => ⟨c, z, a, b, fun e => (key k e).elim c fun e => by omega, d⟩
  obtain ⟨rows, h1, h2⟩ := h.r14
  refine ⟨h.f2.mod hm fun e => (h.n12 _ e).1 rfl, h.f4.mod hm fun e => (h.n12 _ e).2.1 rfl, h.kk.swap hm hse, h.kv.swap hm hse, h9, fun k hk => ?_, ⟨rows, h1.mod hm fun k hk e => (h.n12 k e).2.2 hk, h2⟩, h.n14, hm.after h.ext (fun i hi => (own_block_lt (g := i) h.o12 hi).1), h.er, h.hg2, h.hg4, h.h24⟩
  rcases key k hk with e | e
  · exact h.n12 k e
  · exact ⟨by omega, by omega, fun e2 => by have := h.lt14 e2; omega⟩
/-- A list of those that still wait is begun. -/
theorem St8.fresh {v' : Value} {B : Nat} (h : St8 Wr W0 S w g2 g4 vk vw v12 (.slice none 0 0) K V [] o) (he : Ext w w') (hB : w.heap.size ≤ B) (hr : RowN (fun k => B ≤ k ∧ k < w'.heap.size) w' 54 5 v' []) : St8 Wr W0 S w' g2 g4 vk vw v12 v' K V [] o := by
  have key : ∀ k, v'.ownBlock = some k → w.heap.size ≤ k := fun k hk => Nat.le_trans hB (hr.inF k hk).1
  have l2 := h.f2.lt; have l4 := h.f4.lt; have hs := h.ext.size
  have hse : ∀ k, k < w.heap.size → ((S k ∨ W0.heap.size ≤ k) ∧ k ≠ g2 ∧ k ≠ g4 ∧ v12.ownBlock ≠ some k ∧ (Value.slice none 0 0).ownBlock ≠ some k) → (S k ∨ W0.heap.size ≤ k) ∧ k ≠ g2 ∧ k ≠ g4 ∧ v12.ownBlock ≠ some k ∧ v'.ownBlock ≠ some k := fun k hk ⟨z, a, b, c, d⟩ => ⟨z, a, b, c, fun e => by have := key k e; omega⟩
  refine ⟨h.f2.ext he, h.f4.ext he, (h.kk.mono hse).ext he, (h.kv.mono hse).ext he, h.o12.ext he, fun k hk => ⟨(h.n12 k hk).1, (h.n12 k hk).2.1, fun e => ?_⟩, ⟨[], ⟨hr.own, hr.each, fun k hk => hk⟩, rfl, by simp⟩, fun k hk => ?_, h.ext.trans he, h.er, h.hg2, h.hg4, h.h24⟩
  · have := key k e; have := (own_block_lt (g := k) h.o12 hk).2; omega
  · have := key k hk; exact ⟨by omega, by omega, by omega⟩
/-- The list of those that still wait is the tree's. -/
theorem St8.close (h : St8 Wr W0 S w g2 g4 vk vw v12 v14 K V R o) (hm : Mod (fun k => k = g2) w w') (f : Fs w' g2 [vk, v14]) : St8 Wr W0 S w' g2 g4 vk v14 v12 (.slice none 0 0) K R [] o := by
  obtain ⟨rows, h1, h2⟩ := h.r14
  have h1' := h1.mod hm fun k hk => (h.n14 k hk).1
  refine ⟨f, h.f4.mod hm fun e => h.h24 e.symm, h.kk.swap hm fun k _ hs => ⟨hs.2.1, hs.1, hs.2.1, hs.2.2.1, hs.2.2.2.1, by simp [Value.ownBlock]⟩, KP.new h1'.slS h2 fun k hk => ⟨.inr (h.n14 k hk).2.2, (h.n14 k hk).1, (h.n14 k hk).2.1, fun e => (h.n12 k e).2.2 hk, by simp [Value.ownBlock]⟩, own_mod h.o12 hm fun k hk => (h.n12 k hk).1, fun k hk => ⟨(h.n12 k hk).1, (h.n12 k hk).2.1, by simp [Value.ownBlock]⟩, ⟨[], RowN.nil _ _ _, rfl, by simp⟩, fun k hk => by simp [Value.ownBlock] at hk, hm.after h.ext (fun i hi => by subst hi; exact h.hg2), h.er, h.hg2, h.hg4, h.h24⟩
end
end Go.Proofs.Ytdacclcaopmalaa
