/- A disk that the call made. -/
import Derived.Test.YtfhecifgpjbeiaaDsk
namespace Go.Proofs.Ytfhecifgpjbeiaa
open Go.RowKit
theorem Out.of_new {W w w' : World} {p : Value} {D : DSt} (he : Ext W w) (hx : Ext w w') (_ : Dsk (fun k => w.heap.size ≤ k ∧ k < w'.heap.size) w' p D) : Out W (fun k => w.heap.size ≤ k ∧ k < w'.heap.size) w' :=
  ⟨he.trans hx, fun k hk => Nat.le_trans he.size hk.1⟩
theorem Dsk.ne_nil {F : Nat → Prop} {w : World} {p : Value} {D : DSt} (h : Dsk F w p D) : ∃ a, p = .pointer (some a) := by
  obtain ⟨⟨g, v, rfl, _⟩, _, _⟩ := h; exact ⟨_, rfl⟩
theorem Mod.upd {F : Nat → Prop} {w w' : World} (h : Mod F w w') : Upd F F w w' := ⟨h, fun _ h => .inl h⟩
end Go.Proofs.Ytfhecifgpjbeiaa
