/- Owned slices of one-cell values (bytes, ints), whose block is new since W. -/
import Derived.Test.YtfhecifgpjbeiaaRowStep
import Derived.Test.YtfhecifgpjbeiaaRegStep
namespace Go.Proofs.Ytfhecifgpjbeiaa
open Go.RowKit

/-- An owned slice whose block is new since W. -/
structure OwnA (W w : World) (e : TypeId) (v : Value) (xs : List Value) : Prop where
  own : Row (fun k => v.ownBlock = some k) w e v xs
  new : ∀ k, v.ownBlock = some k → W.heap.size ≤ k
section
variable {W w w' : World} {e : TypeId} {v v' : Value} {xs ys : List Value}
theorem OwnA.ext (h : OwnA W w e v xs) (he : Ext w w') : OwnA W w' e v xs := ⟨h.own.ext he, h.new⟩
theorem OwnA.mod {G : Nat → Prop} (h : OwnA W w e v xs) (hm : Mod G w w') (hG : ∀ k, v.ownBlock = some k → ¬ G k) : OwnA W w' e v xs := ⟨h.own.mod hm hG, h.new⟩
theorem OwnA.lt (h : OwnA W w e v xs) {k : Nat} (hk : v.ownBlock = some k) : k < w.heap.size := h.own.lt hk
theorem OwnA.sl (h : OwnA W w e v xs) : Sl w v xs := h.own.sl
theorem OwnA.of {base : Nat} (h : w.ownsRow base e 1 v xs.length xs) (hb : W.heap.size ≤ base) : OwnA W w e v xs := ⟨⟨own_mono h (Nat.zero_le _), fun _ hk => hk⟩, fun k hk => Nat.le_trans hb (h.lt k hk).1⟩
theorem OwnA.app (h : OwnA W w e v xs) (hx : W.heap.size ≤ w.heap.size) (hr : Row (grow (fun k => v.ownBlock = some k) w w') w' e v' (xs ++ ys)) : OwnA W w' e v' (xs ++ ys) :=
  ⟨⟨hr.own, fun _ hk => hk⟩, fun k hk => (hr.inF k hk).elim (h.new k) fun e => Nat.le_trans hx e.1⟩
/-- Where its block lies behind an append. -/
theorem Row.off {F : Nat → Prop} {xs : List Value} (hr : Row (grow (fun k => v.ownBlock = some k) w w') w' e v' xs) (hF : ∀ k, F k → k < w.heap.size) (hd : ∀ k, v.ownBlock = some k → ¬ F k) : ∀ k, v'.ownBlock = some k → ¬ F k := fun k hk h => by
  rcases hr.inF k hk with h1 | h1
  · exact hd k h1 h
  · have := hF k h; omega
end
end Go.Proofs.Ytfhecifgpjbeiaa
