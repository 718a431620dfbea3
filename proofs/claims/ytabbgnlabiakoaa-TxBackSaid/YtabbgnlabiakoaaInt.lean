/- Lists of numbers as bytes. -/
import Derived.Test.YtabbgnlabiakoaaIntB
import Derived.Test.YtabbgnlabiakoaaCutk
import Derived.Test.YtabbgnlabiakoaaRef
namespace Go.Proofs.Ytabbgnlabiakoaa
open Go.RowKit

/-! ### Lists of numbers as bytes -/
def NuOk (l : List Int) : Prop := l.length ≤ 64 ∧ ∀ x ∈ l, -1 ≤ x
def nuL : List Int → List Nat
  | [] => []
  | x :: r => numL (x + 1).toNat ++ nuL r
theorem nuL_append (l m : List Int) : nuL (l ++ m) = nuL l ++ nuL m := by
  induction l with
  | nil => rfl
  | cons x r ih => simp [nuL, ih]
theorem nuL_len : ∀ l : List Int, (∀ x ∈ l, x ≤ 9223372036854775807) → (nuL l).length ≤ 10 * l.length
  | [], _ => by simp [nuL]
  | x :: r, h => by
    have := nuL_len r fun y hy => h y (List.mem_cons_of_mem _ hy)
    have h2 := numL_len10 (n := (x + 1).toNat) (by have := h x (List.mem_cons_self ..); unfold W64; omega)
    simp [nuL]; omega

end Go.Proofs.Ytabbgnlabiakoaa
