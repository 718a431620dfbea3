/- bodyOf and Bytes of package msg. -/
import Derived.Test.YtgbhbifdfcfamaaMg2
namespace Go.Proofs.Ytgbhbifdfcfamaa
set_option maxRecDepth 100000
open Go.RowKit

theorem Key_x (n : Int) (w : World) : Calls Try.prog 46 #[.int .i64 n] w fun e w' => e = .returned (.int .u64 ((keyB n).toNat : Int)) ∧ Ext w w' := by
  refine (Key_any n w).mono ?_
  rintro e w' ⟨rfl, rfl⟩; exact ⟨rfl, Ext.refl _⟩
theorem Of_x (key : BitVec 64) (v : Value) (l : List Nat) (w : World) (hb : ∀ x ∈ l, x < 256) (h : Parts w v [l]) : Calls Try.prog 67 #[.int .u64 (key.toNat : Int), v] w fun e w' => e = .returned (.int .u64 ((markB key l).toNat : Int)) ∧ Ext w w' := by
  refine (Of_any key v [l] w (fun x hx => by rw [List.mem_singleton] at hx; subst hx; exact hb) h).mono ?_
  rintro e w' ⟨rfl, rfl⟩
  exact ⟨by simp, Ext.refl _⟩

end Go.Proofs.Ytgbhbifdfcfamaa
