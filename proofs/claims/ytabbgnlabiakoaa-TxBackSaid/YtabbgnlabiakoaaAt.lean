/- Which kind of operation a walk stands at, looked at by its form alone: ahead of an arm, so that one that does not fit fails at once. -/
import Derived.Test.YtabbgnlabiakoaaBase
namespace Go.Proofs.Ytabbgnlabiakoaa
open Go.RowKit

section
variable {P : Program} {ops : Array Oper} {rest : List Oper} {a : Act} {Q : Exit → Act → World → Prop} {w : World} {d : Option Tmp} {ty t t' : TypeId} {pos : String} {af : Array Edge} {gd : Option (Nat × Bool)} {x y : Operand} {n : Nat} {ps : Array (Nat × Operand)} {bo : BinOp}
theorem at_load (h : wpList P ops Q (⟨d, .load t x, ty, pos, af, gd⟩ :: rest) a w) : wpList P ops Q (⟨d, .load t x, ty, pos, af, gd⟩ :: rest) a w := h
theorem at_alloc (h : wpList P ops Q (⟨d, .alloc t, ty, pos, af, gd⟩ :: rest) a w) : wpList P ops Q (⟨d, .alloc t, ty, pos, af, gd⟩ :: rest) a w := h
theorem at_store (h : wpList P ops Q (⟨d, .store t x y, ty, pos, af, gd⟩ :: rest) a w) : wpList P ops Q (⟨d, .store t x y, ty, pos, af, gd⟩ :: rest) a w := h
theorem at_idx (h : wpList P ops Q (⟨d, .indexAddr t x y, ty, pos, af, gd⟩ :: rest) a w) : wpList P ops Q (⟨d, .indexAddr t x y, ty, pos, af, gd⟩ :: rest) a w := h
theorem at_get (h : wpList P ops Q (⟨d, .index t x y, ty, pos, af, gd⟩ :: rest) a w) : wpList P ops Q (⟨d, .index t x y, ty, pos, af, gd⟩ :: rest) a w := h
theorem at_field (h : wpList P ops Q (⟨d, .fieldAddr t x n, ty, pos, af, gd⟩ :: rest) a w) : wpList P ops Q (⟨d, .fieldAddr t x n, ty, pos, af, gd⟩ :: rest) a w := h
theorem at_box (h : wpList P ops Q (⟨d, .box t x, ty, pos, af, gd⟩ :: rest) a w) : wpList P ops Q (⟨d, .box t x, ty, pos, af, gd⟩ :: rest) a w := h
theorem at_sbuild (h : wpList P ops Q (⟨d, .build t ps, ty, pos, af, gd⟩ :: rest) a w) : wpList P ops Q (⟨d, .build t ps, ty, pos, af, gd⟩ :: rest) a w := h
theorem at_lit (h : wpList P ops Q (⟨d, .buildSlice t n ps, ty, pos, af, gd⟩ :: rest) a w) : wpList P ops Q (⟨d, .buildSlice t n ps, ty, pos, af, gd⟩ :: rest) a w := h
theorem at_cut {lo hi mx : Option Operand} (h : wpList P ops Q (⟨d, .slice t x lo hi mx, ty, pos, af, gd⟩ :: rest) a w) : wpList P ops Q (⟨d, .slice t x lo hi mx, ty, pos, af, gd⟩ :: rest) a w := h
theorem at_conv (h : wpList P ops Q (⟨d, .convert t t' x, ty, pos, af, gd⟩ :: rest) a w) : wpList P ops Q (⟨d, .convert t t' x, ty, pos, af, gd⟩ :: rest) a w := h
theorem at_bin (h : wpList P ops Q (⟨d, .binOp bo t x y t', ty, pos, af, gd⟩ :: rest) a w) : wpList P ops Q (⟨d, .binOp bo t x y t', ty, pos, af, gd⟩ :: rest) a w := h
theorem at_bi {b : Builtin} {xs : Array Operand} {tys : Array TypeId} (h : wpList P ops Q (⟨d, .call { callee := .builtin b, args := xs, argTypes := tys }, ty, pos, af, gd⟩ :: rest) a w) : wpList P ops Q (⟨d, .call { callee := .builtin b, args := xs, argTypes := tys }, ty, pos, af, gd⟩ :: rest) a w := h
end
end Go.Proofs.Ytabbgnlabiakoaa
