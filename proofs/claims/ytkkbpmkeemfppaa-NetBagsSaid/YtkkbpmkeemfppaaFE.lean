/- The contracts of the document's own answers: neaptideref01.Num and ReadNum. · Lists of numbers as bytes. · The contracts of wire.Nums and neaptideref01.Nums: numbers as bytes, one behind the other. · The contracts of wire.ReadNums and neaptideref01.ReadNums: so many numbers of any bytes. -/
import Derived.Test.YtkkbpmkeemfppaaFD
import Derived.Test.YtkkbpmkeemfppaaFC
namespace Go.Proofs.Ytkkbpmkeemfppaa
open Go.RowKit

theorem scan_nil_of {l : List Nat} {k acc : Nat} (h : rd l = scan k acc (l.drop k)) (hk : l.length ≤ k) : rd l = (0, 0) := by
  rw [h, List.drop_eq_nil_of_le hk, scan]

end Go.Proofs.Ytkkbpmkeemfppaa
namespace Go.Proofs.Ytkkbpmkeemfppaa
open Go.RowKit

/-! ### Lists of numbers as bytes -/
def NuOk (l : List Int) : Prop := l.length ≤ 64 ∧ ∀ x ∈ l, -1 ≤ x
def nuL : List Int → List Nat
  | [] => []
  | x :: r => numL (x + 1).toNat ++ nuL r
theorem nuL_append (l m : List Int) : nuL (l ++ m) = nuL l ++ nuL m := by
  induction l with
  | nil => rfl
  | cons x r ih => simp [nuL, ih]
theorem nuL_len : ∀ l : List Int, (∀ x ∈ l, x ≤ 9223372036854775807) → (nuL l).length ≤ 10 * l.length
  | [], _ => by simp [nuL]
  | x :: r, h => by
    have := nuL_len r fun y hy => h y (List.mem_cons_of_mem _ hy)
    have h2 := numL_len10 (n := (x + 1).toNat) (by have := h x (List.mem_cons_self ..); unfold W64; omega)
    simp [nuL]; omega

end Go.Proofs.Ytkkbpmkeemfppaa
namespace Go.Proofs.Ytkkbpmkeemfppaa
open Go.RowKit

instance (l : List Int) : Decidable (NuOk l) := by unfold NuOk; exact inferInstance
def nuB (l : List Int) : List Nat := if NuOk l then nuL l else []
def nuErr (l : List Int) : Nat := if NuOk l then 0 else 11

theorem wrapNum (x : Int) (h : -1 ≤ x) (h2 : x ≤ 9223372036854775807) : IntKind.u64.wrap (IntKind.u64.wrap x + 1) = ((x + 1).toNat : Int) := by
  simp [IntKind.wrap, IntKind.bits, IntKind.signed]; omega

theorem take_one (l : List Int) (k : Nat) (h : k < l.length) : l.take (k + 1) = l.take k ++ [l[k]] := by
  rw [List.take_succ_eq_append_getElem h]

theorem nuOk_of {l : List Int} (h : l.length ≤ 64) (h2 : ∀ x ∈ l.take l.length, -1 ≤ x) : NuOk l := ⟨h, by rwa [List.take_length] at h2⟩


end Go.Proofs.Ytkkbpmkeemfppaa
namespace Go.Proofs.Ytkkbpmkeemfppaa
open Go.RowKit

/-- So many numbers with which bytes begin, and what is behind them. -/
def rns : Nat → List Nat → Option (List Int × List Nat)
  | 0, l => some ([], l)
  | k + 1, l => if (rd l).2 = 0 ∨ 4611686018427387905 < (rd l).1 then none else (rns k (rdRest l)).map fun r => ((((rd l).1 : Int) - 1) :: r.1, r.2)
def rnO (c : Int) (l : List Nat) : Option (List Int × List Nat) := if c < 0 ∨ 64 < c then none else rns c.toNat l
def rnV (o : Option (List Int × List Nat)) : List Int := match o with | some r => r.1 | none => []
def rnR (o : Option (List Int × List Nat)) : List Nat := match o with | some r => r.2 | none => []
def rnE (o : Option (List Int × List Nat)) : Nat := match o with | some _ => 0 | none => 11

theorem rdRest_len (l : List Nat) : (rdRest l).length ≤ l.length := by rw [rdRest]; split <;> simp
theorem rdRest_lt' {l : List Nat} (hl : ∀ x ∈ l, x < 256) : ∀ x ∈ rdRest l, x < 256 := by
  intro x hx; rw [rdRest] at hx
  split at hx
  · simp at hx
  · exact hl x (List.mem_of_mem_drop hx)

theorem own_empty2 {w : World} {n : Nat} (hn : n = w.heap.size) : OwnB w.heap.size (w.alloc (.cells #[] 5)) (.slice (some ⟨n, 0, none⟩) 0 0) [] := by subst hn; exact own_empty
theorem own_apart {B B' : Nat} {w : World} {b nv : Value} {mm : List Nat} {ys : List Int} (hb : OwnB B w b mm) (hn : OwnI B' w nv ys) : b.ownBlock = none ∨ b.ownBlock ≠ nv.ownBlock := by
  rcases hb.2 with ⟨rfl, _⟩ | ⟨g, cap, cur, rfl, _, hg, _⟩
  · exact .inl rfl
  · refine .inr fun he => ?_
    rcases hn.2 with ⟨rfl, _⟩ | ⟨g', cap', cur', rfl, _, hg', _⟩
    · simp [Value.ownBlock] at he
    · have : g = g' := by simpa [Value.ownBlock] using he
      subst this
      rw [hg] at hg'
      injection hg' with h1
      injection h1 with _ h2
      exact absurd h2 (by decide)
theorem OwnB.kept {B : Nat} {w w' : World} {b : Value} {mm : List Nat} {row : Option Nat} (h : OwnB B w b mm) (hg : w.grownBy w' row) (hne : b.ownBlock = none ∨ b.ownBlock ≠ row) : OwnB B w' b mm := World.ownsRow.kept h hg hne

theorem rns_step {k : Nat} {l : List Nat} (h0 : (rd l).2 ≠ 0) (h1 : ¬ 4611686018427387905 < (rd l).1) : rns (k + 1) l = (rns k (rdRest l)).map fun r => ((((rd l).1 : Int) - 1) :: r.1, r.2) := by
  rw [rns, if_neg (by omega)]
theorem rns_none {k : Nat} {l : List Nat} (h : (rd l).2 = 0 ∨ 4611686018427387905 < (rd l).1) : rns (k + 1) l = none := by rw [rns, if_pos h]


end Go.Proofs.Ytkkbpmkeemfppaa
