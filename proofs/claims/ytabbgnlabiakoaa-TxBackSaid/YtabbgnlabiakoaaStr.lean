/- Strings of bytes. -/
import Derived.Test.YtabbgnlabiakoaaRegStep
namespace Go.Proofs.Ytabbgnlabiakoaa
open Go.RowKit

theorem bytes_ext {a b : ByteArray} (h : a.toList = b.toList) : a = b := by
  rw [ByteArray.toList_eq, ByteArray.toList_eq] at h
  exact ByteArray.ext (Array.toList_inj.1 h)

theorem strN_ne {l m : List Nat} (hl : ∀ x ∈ l, x < 256) (hm : ∀ x ∈ m, x < 256) (h : l ≠ m) : ¬ strN l = strN m := fun e => h (strN_inj hl hm e)
theorem strN_ne' {l m : List Nat} (hl : ∀ x ∈ l, x < 256) (hm : ∀ x ∈ m, x < 256) (h : l ≠ m) : ¬ (strN l).toList = (strN m).toList := fun e => h (strN_inj hl hm (bytes_ext e))
end Go.Proofs.Ytabbgnlabiakoaa
