/- '[]byte("lit")' as steps of a walk. -/
import Derived.Test.YtabbgnlabiakoaaRowStep
import Derived.Test.YtabbgnlabiakoaaRegStep
import Derived.Test.YtabbgnlabiakoaaBuild
import Derived.Lib.SlBytesConst
namespace Go.Proofs.Ytabbgnlabiakoaa
open Go.RowKit

/-- Block g is a row of just the bytes l. -/
def Lit (w : World) (g : Nat) (l : List Nat) : Prop := w.heap[g]? = some (.cells (u8s l).toArray 5 (0, 0))

theorem run_bconv {w : World} {g : Nat} {l : List Nat} (h : Lit w g l) : (convert 28 28 (.slice (some ⟨g, 0, none⟩) l.length l.length)).run Try.prog w = .ok (.slice (some ⟨g, 0, none⟩) l.length l.length) (w.freeze ⟨g, l.length, none⟩ 1) := by
  have hsh : w.shape? g = some (5, l.length) := by unfold World.shape?; rw [h]; simp [u8s_length]
  simp [convert, run_underlying Try.underlying28, run_underlying Try.underlying5, markStringish, hsh]
theorem freeze_mod (w : World) (a : Addr) (n : Nat) : Mod (fun k => k = a.block) w (w.freeze a n) := by
  unfold World.freeze
  split
  · exact Mod.refl _ _
  · exact ⟨rfl, rfl, rfl, by simp, fun k hk hn => by simp only [Array.getElem?_modify]; rw [if_neg (fun e => hn e.symm)]⟩
theorem freeze_byt {w : World} {g : Nat} {l : List Nat} (h : Lit w g l) (hl : l.length ≤ 1000000) (k : Nat) : Byt (w.freeze ⟨g, k, none⟩ 1) (.slice (some ⟨g, 0, none⟩) l.length l.length) l := by
  refine ⟨some ⟨g, 0, none⟩, l.length, by rw [u8s_length], by rw [u8s_length]; exact Nat.le_refl _, by simp only [maxLen]; omega, fun j u hj => ⟨_, rfl, ?_⟩⟩
  rw [add_zero_off]
  unfold World.freeze
  rw [if_neg (by decide)]
  simp only [World.cell?, Array.getElem?_modify, if_true]
  rw [show w.heap[g]? = _ from h]
  simp only [Option.map_some]
  simpa using hj

section
variable {ops : Array Oper} {rest : List Oper} {o : Oper} {a : Act} {Q : Exit → Act → World → Prop} {w : World}
/-- The bytes of a literal, laid in a row; the conversion is the next operation (w_bconv). -/
theorem w_blit {n : Nat} {ps : Array (Nat × Operand)} (l : List Nat) (hgd : o.guard = none) (ho : o.op = .buildSlice 28 n ps)
    (hps : (ps.toList.map fun x => (x.1, a.eval x.2)) = ((u8s l).zipIdx 0).map fun p => (p.2, p.1)) (hn : n = l.length) (hs : n ≤ 1000000)
    (k : ∀ g w', w.heap.size ≤ g → Ext w w' → Lit w' g l → wpList Try.prog ops Q rest (a.put o.dst (.slice (some ⟨g, 0, none⟩) l.length l.length)) w') : wpList Try.prog ops Q (o :: rest) a w := by
  subst hn
  exact w_build Try.elB _ ps (u8s l) hgd ho hps (u8s_cells l) (by rw [u8s_length]) hs (k _ _ (Nat.le_refl _) ((Ext.refl w).alloc _) (heap_alloc_new w _))
/-- []byte{}: owned, from a block B on. -/
theorem w_bempty (hgd : o.guard = none) (ho : o.op = .buildSlice 28 0 #[])
    (k : ∀ v' w' B, w.heap.size ≤ B → B ≤ w'.heap.size → Ext w w' → OwnB B w' v' [] → wpList Try.prog ops Q rest (a.put o.dst v') w') : wpList Try.prog ops Q (o :: rest) a w :=
  w_new Try.elB (u8s []) hgd ho rfl (by simp [u8s]) rfl (by omega) fun v' w' hx h => k v' w' _ (Nat.le_refl _) hx.size hx h
theorem w_bconv {l : List Nat} {w0 : World} (x : Operand) {g : Nat} (hgd : o.guard = none) (ho : o.op = .convert 28 28 x) (hx : a.eval x = .slice (some ⟨g, 0, none⟩) l.length l.length) (hg : w0.heap.size ≤ g) (he : Ext w0 w) (h : Lit w g l) (hl : l.length ≤ 1000000)
    (k : ∀ v w', Ext w0 w' → Byt w' v l → (∀ k, v.ownBlock = some k → w0.heap.size ≤ k ∧ k < w'.heap.size) → wpList Try.prog ops Q rest (a.put o.dst v) w') : wpList Try.prog ops Q (o :: rest) a w := by
  have hr := run_bconv h
  have hm := freeze_mod w ⟨g, l.length, none⟩ 1
  have hk0 := k _ _ (hm.after he fun i hi => by subst hi; exact hg) (freeze_byt h hl l.length) (fun j hj => by
    cases hj
    exact ⟨hg, Nat.lt_of_lt_of_le (Array.getElem?_eq_some_iff.1 h).1 hm.size⟩)
  refine wpList_plain hgd fun K hK => ?_
  have hk := hK _ _ hk0
  unfold Oper.wp execOp
  simp only [ho, hx, Sem.run_bind, hr, Result.andThen_ok]
  exact hk
end
end Go.Proofs.Ytabbgnlabiakoaa
