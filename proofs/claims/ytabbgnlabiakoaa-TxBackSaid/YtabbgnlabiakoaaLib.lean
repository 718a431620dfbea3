/- Slices that read as lists of one-cell values; slices that the call owns; append of the one onto the other. Conditions: lengths within Go's int, bytes within the model's reach. -/
import Derived.Below
import Derived.Laws.OwnMore
import Derived.Maps.AppendAt
import Derived.Deep.AppendLies
import Derived.RegionTactic
import Derived.OwnWalk
import Derived.Deep.Draws
namespace Go.Proofs.Ytabbgnlabiakoaa
open Go.RowKit

/-- The slice value v reads as the one-cell values xs in w. -/
def Sl (w : World) (v : Value) (xs : List Value) : Prop :=
  ∃ (A : Option Addr) (c : Nat), v = .slice A xs.length c ∧ xs.length ≤ c ∧ c ≤ maxLen ∧ ∀ k u, xs[k]? = some u → ∃ ad : Addr, A = some ad ∧ w.cell? (ad.add k) = some u

/-- w' is w with more memory: nothing that was there has turned. -/
def Ext (w w' : World) : Prop := Below w.heap.size w w'

theorem blk_add (a : Addr) (n : Nat) : (a.add n).block = a.block := by unfold Addr.add; split <;> rfl
theorem add_add' (a : Addr) (i j : Nat) : (a.add i).add j = a.add (i + j) := by
  unfold Addr.add
  by_cases hi : i = 0 <;> by_cases hj : j = 0 <;> simp [hi, hj, Nat.add_assoc]

theorem Ext.size {a b : World} (h : Ext a b) : a.heap.size ≤ b.heap.size := Below.size h
theorem Ext.refl (w : World) : Ext w w := Below.refl _ w
theorem Ext.trans {a b c : World} (h : Ext a b) (k : Ext b c) : Ext a c := Below.trans h (Below.mono k h.size)
theorem Ext.trans' {a b c : World} (h : Ext a b) (k : Below a.heap.size b c) : Ext a c := Below.trans h k
theorem Ext.drew {a b : World} (h : Ext a b) : Ext a b.drew := Below.drew h
theorem Ext.ofDrewN (a : World) (n : Nat) : Ext a (a.drewN n) := ⟨rfl, rfl, rfl, Nat.le_refl _, fun _ _ => rfl⟩
theorem Ext.drewN {a b : World} (h : Ext a b) (n : Nat) : Ext a (b.drewN n) := h.trans (Ext.ofDrewN b n)
theorem Ext.alloc {a b : World} (h : Ext a b) (o : Obj) : Ext a (b.alloc o) := Below.alloc h h.size o
theorem Ext.below {a b : World} {B : Nat} (h : Ext a b) (hB : B ≤ a.heap.size) : Below B a b := Below.mono h hB
theorem Ext.cell {w w' : World} (h : Ext w w') {p : Addr} {u : Value} (hc : w.cell? p = some u) : w'.cell? p = some u :=
  (Below.cell h (World.block_lt_of_cell? w p hc)).trans hc
theorem Ext.setNew {a b : World} (h : Ext a b) {p : Addr} (hp : a.heap.size ≤ p.block) (u : Value) : Ext a (b.setCell p u) := Below.setCell h hp u

theorem ext_alloc_below {w w' : World} {o : Obj} (h : Below w.heap.size (w.alloc o) w') : Ext w w' := (show Below w.heap.size w (w.alloc o) from (Ext.refl w).alloc o).trans h
theorem Sl.ext {w w' : World} {v : Value} {xs : List Value} (h : Sl w v xs) (he : Ext w w') : Sl w' v xs := by
  obtain ⟨A, c, rfl, h1, h2, h3⟩ := h
  exact ⟨A, c, rfl, h1, h2, fun k u hk => by obtain ⟨ad, rfl, hc⟩ := h3 k u hk; exact ⟨ad, rfl, he.cell hc⟩⟩
theorem Sl.nil (w : World) : Sl w (.slice none 0 0) [] := ⟨none, 0, rfl, by simp, by simp [maxLen], fun k u h => by simp at h⟩
theorem Sl.len_le {w : World} {v : Value} {xs : List Value} (h : Sl w v xs) : xs.length ≤ maxLen := by
  obtain ⟨A, c, _, h1, h2, _⟩ := h; omega

section own
variable {w w' : World} {base : Nat} {e : TypeId} {v : Value} {xs : List Value}
theorem Sl.of_own (h : w.ownsRow base e 1 v xs.length xs) : Sl w v xs := by
  have h' := h
  obtain ⟨hl, hn | ⟨g, cap, cur, hv, hb, hg, h1, h2, hs, ht⟩⟩ := h
  · obtain ⟨rfl, h0⟩ := hn
    have : xs = [] := List.eq_nil_of_length_eq_zero h0
    subst this
    exact Sl.nil w
  · refine ⟨some ⟨g, 0, none⟩, cap, hv, h1, h2, fun k u hk => ⟨_, rfl, ?_⟩⟩
    exact h'.cells (g := g) (by rw [hv]; rfl) k u hk
theorem own_nil (w : World) (base : Nat) (e : TypeId) : w.ownsRow base e 1 (.slice none 0 0) ([] : List Value).length [] := World.ownsRow_nil w base e 1
theorem own_mono {B : Nat} (h : w.ownsRow base e 1 v xs.length xs) (hB : B ≤ base) : w.ownsRow B e 1 v xs.length xs := by
  obtain ⟨hl, hn | ⟨g, cap, cur, hv, hb, rest⟩⟩ := h
  · exact ⟨hl, .inl hn⟩
  · exact ⟨hl, .inr ⟨g, cap, cur, hv, Nat.le_trans hB hb, rest⟩⟩
theorem own_below {B : Nat} (h : w.ownsRow base e 1 v xs.length xs) (hb : Below B w w') (hB : w.heap.size ≤ B) : w'.ownsRow base e 1 v xs.length xs := by
  obtain ⟨hl, hn | ⟨g, cap, cur, hv, hg, hh, rest⟩⟩ := h
  · exact ⟨hl, .inl hn⟩
  · refine ⟨hl, .inr ⟨g, cap, cur, hv, hg, ?_, rest⟩⟩
    rw [hb.block g (Nat.lt_of_lt_of_le (Array.getElem?_eq_some_iff.1 hh).1 hB)]; exact hh
theorem own_ext (h : w.ownsRow base e 1 v xs.length xs) (he : Ext w w') : w'.ownsRow base e 1 v xs.length xs := own_below h he (Nat.le_refl _)
theorem own_block_lt {g : Nat} (h : w.ownsRow base e 1 v xs.length xs) (hg : v.ownBlock = some g) : base ≤ g ∧ g < w.heap.size := h.lt g hg
/-- Behind an append onto what is owned from base on. -/
theorem below_grown (hb : base ≤ w.heap.size) (h : w.ownsRow base e 1 v xs.length xs) (hg : w.grownBy w' v.ownBlock) : Below base w w' :=
  (Below.refl base w).grown hg hb (fun k hk => (h.lt k hk).1)
end own

section append
variable {P : Program} (w : World)
theorem run_append_none (base : Nat) (t ty e : TypeId) (i : TypeInfo) (ht : P.underlying t = some (.slice e)) (hi : P.info? e = some i)
    (v : Value) (n : Nat) (xs : List Value) (hown : w.ownsRow base e 1 v n xs) (c : Nat) : (Builtin.append_ #[t, t] ty #[v, .slice none 0 c]).run P w = .ok v w := by
  obtain ⟨_, ⟨rfl, rfl⟩ | ⟨g, cap, cur, rfl, _, _, hnc, _⟩⟩ := hown
  · simp [Builtin.append_, run_underlying ht, sizeOf, typeInfo, hi, Builtin.lenOf, Builtin.firstCells]
  · simp [Builtin.append_, run_underlying ht, sizeOf, typeInfo, hi, Builtin.lenOf, Builtin.firstCells, hnc, storeCells]

theorem run_append_sl (base : Nat) (t ty e : TypeId) (i : TypeInfo) (z : Value) (bytes : Nat) (ht : P.underlying t = some (.slice e)) (hi : P.info? e = some i) (hz : i.zero = some z)
    (hsize : i.size = 1) (hby : i.bytes = bytes) (hzs : z.cells.size = 1) {v s : Value} {xs ys : List Value} (hown : w.ownsRow base e 1 v xs.length xs) (hs : Sl w s ys)
    (h1 : ∀ u ∈ ys, u.oneCell' = true) (hbytes : (xs.length + ys.length) * bytes ≤ 140737488355328) (h0 : 0 < bytes) (hbase : base ≤ w.heap.size) :
    ∃ v' w', (Builtin.append_ #[t, t] ty #[v, s]).run P w = .ok v' w' ∧ w'.ownsRow base e 1 v' (xs ++ ys).length (xs ++ ys) ∧ w.grownBy w' v.ownBlock ∧
      (v'.ownBlock = v.ownBlock ∨ v'.ownBlock = some w.heap.size) := by
  have hm : xs.length + ys.length ≤ maxLen := by
    have := Nat.le_mul_of_pos_right (xs.length + ys.length) h0
    simp only [maxLen]; omega
  obtain ⟨A, c, rfl, hc1, hc2, hc⟩ := hs
  cases A with
  | none =>
    have hy : ys = [] := by
      cases ys with
      | nil => rfl
      | cons u r => obtain ⟨ad, h, _⟩ := hc 0 u rfl; cases h
    subst hy
    refine ⟨v, w, run_append_none w base t ty e i ht hi v _ xs hown c, by simpa using hown, World.grownBy.refl w _, .inl rfl⟩
  | some ad =>
    have hcells : ∀ j u, ys[j]? = some u → w.cell? (ad.add j) = some u := fun j u hj => by
      obtain ⟨ad', h, h'⟩ := hc j u hj
      injection h with h; subst h; exact h'
    obtain ⟨v', w', hrun, h2, h3, _, h5⟩ := run_append_own_at (P := P) w base t ty e i z 1 bytes ht hi hz hsize hby hzs (by omega) v xs.length xs hown ad ys.length c ys (by simp) hcells h1 hm hbytes hbase
    exact ⟨v', w', hrun, by rw [List.length_append]; exact h2, h3, h5⟩
end append
end Go.Proofs.Ytabbgnlabiakoaa
