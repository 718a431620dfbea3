/- Plain mathematics of view: whose turn it is, how long one waits, what is left behind a tick. No condition. -/
import Derived.Test.YtddaaogicpbekaaFA
namespace Go.Proofs.Ytddaaogicpbekaa
open Go.RowKit

/-- Whose turn it is. -/
def ldr (i v n : Int) : Int := if 0 ≤ i ∧ i ≤ 1000 ∧ 0 ≤ v ∧ v ≤ 1000 ∧ 1 ≤ n ∧ n ≤ 7 then (i + v) % n else 0
/-- Twice, k times. -/
def grw (b : Int) (k : Nat) : Int := b * 2 ^ k
/-- How long one waits. -/
def pat (v b m : Int) : Int := if 1 ≤ m ∧ m ≤ 1000 then (if 0 ≤ v ∧ 1 ≤ b ∧ b ≤ 100 then min (grw b v.toNat) m else m) else 1000
/-- What is left behind a tick. -/
def tck (x : Int) : Int := max x 1 - 1

theorem grw_zero (b : Int) : grw b 0 = b := by simp [grw]
theorem grw_succ (b : Int) (k : Nat) : grw b (k + 1) = grw b k * 2 := by unfold grw; rw [Int.pow_succ, Int.mul_assoc]
theorem grw_mono {b : Int} (hb : 1 ≤ b) (k : Nat) : ∀ j, grw b k ≤ grw b (k + j)
  | 0 => Int.le_refl _
  | j + 1 => by
    have h := grw_mono hb k j
    have h0 : 0 ≤ grw b (k + j) := by
      unfold grw
      exact Int.mul_nonneg (by omega) (Int.le_of_lt (Int.pow_pos (by decide)))
    rw [← Nat.add_assoc, grw_succ]; omega
theorem grw_le {b : Int} (hb : 1 ≤ b) {k n : Nat} (h : k ≤ n) : grw b k ≤ grw b n := by
  have := grw_mono hb k (n - k)
  rwa [show k + (n - k) = n by omega] at this
theorem grw_pos {b : Int} (hb : 1 ≤ b) (k : Nat) : 1 ≤ grw b k := by
  have := grw_le hb (Nat.zero_le k)
  rw [grw_zero] at this; omega
theorem pat_bad {v b m : Int} (h : ¬ (1 ≤ m ∧ m ≤ 1000)) : pat v b m = 1000 := by unfold pat; rw [if_neg h]
theorem pat_cap {v b m : Int} (h : 1 ≤ m ∧ m ≤ 1000) (h2 : ¬ (0 ≤ v ∧ 1 ≤ b ∧ b ≤ 100)) : pat v b m = m := by unfold pat; rw [if_pos h, if_neg h2]
theorem pat_good {v b m : Int} (h : 1 ≤ m ∧ m ≤ 1000) (h2 : 0 ≤ v ∧ 1 ≤ b ∧ b ≤ 100) : pat v b m = min (grw b v.toNat) m := by unfold pat; rw [if_pos h, if_pos h2]
/-- Where the loop ends. -/
theorem pat_end {v b m y : Int} {k : Nat} (h : 1 ≤ m ∧ m ≤ 1000) (h2 : 0 ≤ v ∧ 1 ≤ b ∧ b ≤ 100) (hk : k ≤ v.toNat) (hy : y = grw b k) (he : k = v.toNat ∨ m ≤ y) : pat v b m = min y m := by
  rw [pat_good h h2]
  rcases he with rfl | he
  · rw [hy]
  · have := grw_le h2.2.1 hk
    omega
theorem pat_range (v b m : Int) : 1 ≤ pat v b m ∧ pat v b m ≤ 1000 := by
  by_cases h : 1 ≤ m ∧ m ≤ 1000
  · by_cases h2 : 0 ≤ v ∧ 1 ≤ b ∧ b ≤ 100
    · rw [pat_good h h2]
      have := grw_pos h2.2.1 v.toNat
      omega
    · rw [pat_cap h h2]; omega
  · rw [pat_bad h]; omega
/-- It never falls. -/
theorem pat_mono {v b m : Int} (hv : 0 ≤ v) : pat v b m ≤ pat (v + 1) b m := by
  by_cases h : 1 ≤ m ∧ m ≤ 1000
  · by_cases h2 : 1 ≤ b ∧ b ≤ 100
    · rw [pat_good h ⟨hv, h2⟩, pat_good h ⟨by omega, h2⟩]
      have := grw_le h2.1 (show v.toNat ≤ (v + 1).toNat by omega)
      omega
    · rw [pat_cap h fun q => h2 q.2, pat_cap h fun q => h2 q.2]; omega
  · rw [pat_bad h, pat_bad h]; omega

theorem ldr_good {i v n : Int} (h : 0 ≤ i ∧ i ≤ 1000 ∧ 0 ≤ v ∧ v ≤ 1000 ∧ 1 ≤ n ∧ n ≤ 7) : ldr i v n = (i + v) % n := by unfold ldr; rw [if_pos h]
theorem ldr_bad {i v n : Int} (h : ¬ (0 ≤ i ∧ i ≤ 1000 ∧ 0 ≤ v ∧ v ≤ 1000 ∧ 1 ≤ n ∧ n ≤ 7)) : ldr i v n = 0 := by unfold ldr; rw [if_neg h]
/-- By differences. -/
theorem mod_of_sub {s n y : Int} {k : Nat} (h : y = s - n * k) (h0 : 0 ≤ y) (h1 : y < n) : s % n = y := by
  have : s = y + n * k := by omega
  rw [this, Int.add_mul_emod_self_left]
  exact Int.emod_eq_of_lt h0 h1

theorem tck_range {x : Int} (h : x ≤ 9223372036854775807) : 0 ≤ tck x ∧ tck x ≤ 9223372036854775806 := by unfold tck; omega
theorem tck_low {x : Int} (h : x < 1) : tck x = 0 := by unfold tck; omega
theorem tck_high {x : Int} (h : 1 ≤ x) : tck x = x - 1 := by unfold tck; omega

/-- Who had a turn already, of n nodes, from the r-th one on, behind k views. -/
def sn (n r k : Nat) : List Int := (List.range 7).map fun j => if j < n ∧ (j + n - r) % n < k then 1 else 0
theorem sn_len (n r k : Nat) : (sn n r k).length = 7 := by simp [sn]
theorem sn_zero (n r : Nat) : sn n r 0 = [0, 0, 0, 0, 0, 0, 0] := by simp [sn, List.range_succ]
theorem sn_step {n r k : Nat} (hn : 1 ≤ n ∧ n ≤ 7) (hr : r < n) (hk : k < n) : (sn n r k)[(r + k) % n]? = some 0 ∧ (sn n r k).set ((r + k) % n) 1 = sn n r (k + 1) := by
  have h : ∀ (n : Fin 8) (r k : Fin 7), 1 ≤ n.val → r.val < n.val → k.val < n.val → (sn n.val r.val k.val)[(r.val + k.val) % n.val]? = some 0 ∧ (sn n.val r.val k.val).set ((r.val + k.val) % n.val) 1 = sn n.val r.val (k.val + 1) := by decide +kernel
  exact h ⟨n, by omega⟩ ⟨r, by omega⟩ ⟨k, by omega⟩ hn.1 hr hk
theorem sn_all {n r j : Nat} (hn : 1 ≤ n ∧ n ≤ 7) (hr : r < n) (hj : j < n) : (sn n r n)[j]? = some 1 := by
  have h : ∀ (n : Fin 8) (r j : Fin 7), 1 ≤ n.val → r.val < n.val → j.val < n.val → (sn n.val r.val n.val)[j.val]? = some 1 := by decide +kernel
  exact h ⟨n, by omega⟩ ⟨r, by omega⟩ ⟨j, by omega⟩ hn.1 hr hj
/-- Whose turn it is, k views on. -/
theorem ldr_on {i f n z : Int} {r N k : Nat} (hi : 0 ≤ i ∧ i ≤ 1000) (hf : 0 ≤ f ∧ f ≤ 900) (hn : n = N) (hN : 1 ≤ N ∧ N ≤ 7) (hr : (r : Int) = (i + f) % n) (hz : z = k) (hk : k ≤ N) : ldr i (f + z) n = (((r + k) % N : Nat) : Int) := by
  rw [ldr_good (by omega), Int.natCast_emod, Int.natCast_add, hr, hz, hn, Int.emod_add_emod, Int.add_assoc]
theorem ldr_round {i f n : Int} (hi : 0 ≤ i ∧ i ≤ 1000) (hf : 0 ≤ f ∧ f ≤ 900) (hn : 1 ≤ n ∧ n ≤ 7) : ldr i (f + n) n = ldr i f n := by
  rw [ldr_good (by omega), ldr_good (by omega), ← Int.add_assoc, Int.add_emod_right]
end Go.Proofs.Ytddaaogicpbekaa
