/- Masks and their bits; to whom a packet goes: plain mathematics. -/
import Derived.Test.YtkkbpmkeemfppaaFD
namespace Go.Proofs.Ytkkbpmkeemfppaa
open Go.RowKit

/-- Has m the bit of k? -/
def bitM (m : Int) (k : Nat) : Bool := decide (m / 2 ^ k % 2 = 1)
theorem cases7 {k : Nat} (hk : k < 7) : k = 0 ∨ k = 1 ∨ k = 2 ∨ k = 3 ∨ k = 4 ∨ k = 5 ∨ k = 6 := by omega
theorem lsb_ofInt (m : Int) {k : Nat} (hk : k < 7) : (BitVec.ofInt 64 m).getLsbD k = bitM m k := by
  rw [← BitVec.testBit_toNat, BitVec.toNat_ofInt]
  unfold bitM
  rw [Nat.testBit_eq_decide_div_mod_eq]
  refine decide_eq_decide.2 ?_
  rcases cases7 hk with rfl | rfl | rfl | rfl | rfl | rfl | rfl <;> simp <;> omega
theorem bits_pow (m : Int) {k : Nat} (hk : k < 7) : bits .and .i64 m ((2 ^ k : Nat) : Int) = if bitM m k then ((2 ^ k : Nat) : Int) else 0 := by
  have e : BitVec.ofInt 64 ((2 ^ k : Nat) : Int) = BitVec.twoPow 64 k := by
    have h : ∀ k : Fin 7, BitVec.ofInt 64 ((2 ^ k.val : Nat) : Int) = BitVec.twoPow 64 k.val := by decide +kernel
    exact h ⟨k, hk⟩
  have hw : IntKind.i64.wrap ((BitVec.twoPow 64 k).toNat : Int) = ((2 ^ k : Nat) : Int) := by
    have h : ∀ k : Fin 7, IntKind.i64.wrap ((BitVec.twoPow 64 k.val).toNat : Int) = ((2 ^ k.val : Nat) : Int) := by decide +kernel
    exact h ⟨k, hk⟩
  show IntKind.i64.wrap ((BitVec.ofInt 64 m &&& BitVec.ofInt 64 ((2 ^ k : Nat) : Int)).toNat : Int) = _
  rw [e, BitVec.and_twoPow, lsb_ofInt m hk]
  cases bitM m k
  · rw [if_neg (by decide), if_neg (by decide)]; decide +kernel
  · exact hw
theorem bits_ne (m : Int) {k : Nat} (hk : k < 7) : (bits .and .i64 m ((2 ^ k : Nat) : Int) != 0) = bitM m k := by
  rw [bits_pow m hk]
  cases bitM m k
  · rfl
  · rw [if_pos rfl, bne_iff_ne]
    have := Nat.two_pow_pos k
    omega
theorem bits_shr (m : Int) {k : Nat} : (bits .and .i64 (m / 2 ^ k) 1 == 1) = bitM m k := by
  have h := bits_pow (m / 2 ^ k) (k := 0) (by omega)
  rw [show (((2 ^ 0 : Nat)) : Int) = 1 from rfl] at h
  rw [h]
  have : bitM (m / 2 ^ k) 0 = bitM m k := by unfold bitM; rw [Int.pow_zero, Int.ediv_one]
  rw [this]
  cases bitM m k <;> rfl
/-- The cells of an array of seven truths. -/
def sdC (b : Nat → Bool) : List Value := [.bool (b 0), .bool (b 1), .bool (b 2), .bool (b 3), .bool (b 4), .bool (b 5), .bool (b 6)]
theorem sdC_get (b : Nat → Bool) {k : Nat} (hk : k < 7) : (sdC b)[k]? = some (.bool (b k)) := by
  rcases cases7 hk with rfl | rfl | rfl | rfl | rfl | rfl | rfl <;> rfl
theorem sdC_set (b : Nat → Bool) {k : Nat} (hk : k < 7) (q : Bool) : (sdC b).set k (.bool q) = sdC fun j => if j = k then q else b j := by
  rcases cases7 hk with rfl | rfl | rfl | rfl | rfl | rfl | rfl <;> rfl
theorem sdC_ext {b d : Nat → Bool} (h : ∀ k, k < 7 → b k = d k) : sdC b = sdC d := by
  unfold sdC
  rw [h 0 (by omega), h 1 (by omega), h 2 (by omega), h 3 (by omega), h 4 (by omega), h 5 (by omega), h 6 (by omega)]
/-- Are both on one side? -/
def sameM (b : Nat → Bool) (x y : Int) : Bool := decide (0 ≤ x ∧ x ≤ 6) && (decide (0 ≤ y ∧ y ≤ 6) && (b x.toNat == b y.toNat))
/-- Does it go from fr to node k? -/
def goesTo (to fr : Int) (k : Nat) : Bool := ((k : Int) != fr) && ((to == -1) || (to == (k : Int)))
def goN (to fr : Int) : Nat → List Int
  | 0 => []
  | n + 1 => if goesTo to fr n then goN to fr n ++ [(n : Int)] else goN to fr n
def spr (to fr n : Int) : List Int := if n ≤ 7 then goN to fr n.toNat else []
theorem goN_len (to fr : Int) : ∀ n, (goN to fr n).length ≤ n
  | 0 => Nat.le_refl _
  | n + 1 => by
    have := goN_len to fr n
    unfold goN
    split <;> simp <;> omega
end Go.Proofs.Ytkkbpmkeemfppaa
