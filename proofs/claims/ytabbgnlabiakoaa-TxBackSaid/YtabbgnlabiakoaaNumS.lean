/- Plain facts on numbers as groups of seven bits: how a number is read back. No program. -/
import Derived.Test.YtabbgnlabiakoaaNum
namespace Go.Proofs.Ytabbgnlabiakoaa

/-- How the bytes are gone through, from byte i on, with acc read so far: the number, and how many bytes; 0 and 0, if there is none. -/
def scan : Nat → Nat → List Nat → Nat × Nat
  | _, _, [] => (0, 0)
  | i, acc, c :: r => if i = 9 ∧ 1 < c then (0, 0) else if 128 ≤ c then scan (i + 1) (acc + c % 128 * 128 ^ i) r else if c = 0 ∧ 0 < i then (0, 0) else (acc + c * 128 ^ i, i + 1)

theorem numL_ne (n : Nat) : numL n ≠ [] := by rw [numL]; split <;> simp
theorem numL_pos (n : Nat) : 0 < (numL n).length := List.length_pos_iff.2 (numL_ne n)

theorem scan_yes : ∀ (l : List Nat) (i acc m : Nat), numL m <+: l → (m ≠ 0 ∨ i = 0) → acc < 128 ^ i → acc + 128 ^ i * m < 2 ^ 64 → scan i acc l = (acc + 128 ^ i * m, i + (numL m).length)
  | [], i, acc, m, h, _, _, _ => absurd (List.prefix_nil.1 h) (numL_ne m)
  | c :: r, i, acc, m, h, h0, ha, hb => by
    have hi : i ≤ 9 := by
      rcases h0 with h0 | h0
      · apply Nat.le_of_not_lt; intro hlt
        have h1 : 128 ^ 10 ≤ 128 ^ i := Nat.pow_le_pow_right (by omega) hlt
        have h2 : 128 ^ i ≤ 128 ^ i * m := Nat.le_mul_of_pos_right _ (by omega)
        omega
      · omega
    by_cases hm : m < 128
    · rw [numL_small hm] at h
      have hc : m = c := (List.cons_prefix_cons.1 h).1
      subst hc
      rw [scan, if_neg, if_neg (by omega), if_neg (by omega), numL_small hm]
      · simp [Nat.mul_comm]
      · rintro ⟨rfl, h9⟩; omega
    · rw [numL_big (by omega)] at h
      obtain ⟨hc, hr⟩ := List.cons_prefix_cons.1 h
      have hp : 128 ^ (i + 1) = 128 * 128 ^ i := by rw [Nat.pow_succ, Nat.mul_comm]
      have hdm : 128 ^ i * m = 128 ^ i * (m % 128) + 128 * 128 ^ i * (m / 128) := by
        have := Nat.div_add_mod m 128
        calc 128 ^ i * m = 128 ^ i * (128 * (m / 128) + m % 128) := by rw [this]
          _ = _ := by rw [Nat.mul_add, Nat.add_comm, ← Nat.mul_assoc, Nat.mul_comm (128 ^ i) 128]
      have hc' : c % 128 = m % 128 := by omega
      have hmul : m % 128 * 128 ^ i ≤ 127 * 128 ^ i := Nat.mul_le_mul_right _ (by omega)
      rw [scan, if_neg, if_pos (by omega), scan_yes r (i + 1) _ (m / 128) hr (.inl (by omega)) (by rw [hc', hp]; omega) (by rw [hc', hp, Nat.mul_comm (m % 128)]; omega), numL_big (n := m) (by omega)]
      · rw [hc', hp, hdm, Nat.mul_comm (m % 128)]; simp; omega
      · rintro ⟨rfl, _⟩
        have : 1 ≤ m / 128 := by omega
        have : 128 * 128 ^ 9 * 1 ≤ 128 * 128 ^ 9 * (m / 128) := Nat.mul_le_mul_left _ this
        omega

theorem scan_some : ∀ (l : List Nat) (i acc : Nat), (∀ x ∈ l, x < 256) → acc < 128 ^ i → i ≤ 9 → (scan i acc l).2 ≠ 0 →
    ∃ m, numL m <+: l ∧ (m ≠ 0 ∨ i = 0) ∧ (scan i acc l).1 = acc + 128 ^ i * m ∧ (scan i acc l).2 = i + (numL m).length ∧ acc + 128 ^ i * m < 2 ^ 64
  | [], i, acc, _, _, _, h => by simp [scan] at h
  | c :: r, i, acc, hl, ha, hi, h => by
    have hp : 128 ^ (i + 1) = 128 * 128 ^ i := by rw [Nat.pow_succ, Nat.mul_comm]
    have h64 : ∀ x, acc < 128 ^ i → i ≤ 9 → x < 128 → (i = 9 → x ≤ 1) → acc + 128 ^ i * x < 2 ^ 64 := by
      intro x h1 h2 h3 h4
      rcases Nat.lt_or_ge i 9 with h9 | h9
      · have : 128 ^ (i + 1) ≤ 128 ^ 9 := Nat.pow_le_pow_right (by omega) h9
        have : 128 ^ i * x ≤ 128 ^ i * 127 := Nat.mul_le_mul_left _ (by omega)
        omega
      · have : i = 9 := by omega
        subst this
        have := h4 rfl
        have : 128 ^ 9 * x ≤ 128 ^ 9 * 1 := Nat.mul_le_mul_left _ this
        omega
    rw [scan] at h ⊢
    by_cases h9 : i = 9 ∧ 1 < c
    · rw [if_pos h9] at h; simp at h
    · rw [if_neg h9] at h ⊢
      by_cases hc : 128 ≤ c
      · rw [if_pos hc] at h ⊢
        have hi8 : i ≤ 8 := by omega
        have hmul : c % 128 * 128 ^ i ≤ 127 * 128 ^ i := Nat.mul_le_mul_right _ (by omega)
        obtain ⟨m, h1, h2, h3, h4, h5⟩ := scan_some r (i + 1) (acc + c % 128 * 128 ^ i) (fun x hx => hl x (List.mem_cons_of_mem _ hx)) (by rw [hp]; omega) (by omega) h
        have hm0 : m ≠ 0 := by rcases h2 with h2 | h2 <;> omega
        have hcc := hl c (List.mem_cons_self ..)
        have hn : numL (c % 128 + 128 * m) = c :: numL m := by
          rw [numL_big (by omega), show (c % 128 + 128 * m) % 128 + 128 = c from by omega, show (c % 128 + 128 * m) / 128 = m from by omega]
        have he : acc + 128 ^ i * (c % 128 + 128 * m) = acc + c % 128 * 128 ^ i + 128 ^ (i + 1) * m := by
          rw [hp, Nat.mul_add, Nat.mul_comm (128 ^ i) (c % 128), ← Nat.mul_assoc, Nat.mul_comm (128 ^ i) 128]; omega
        refine ⟨c % 128 + 128 * m, by rw [hn]; exact List.cons_prefix_cons.2 ⟨rfl, h1⟩, .inl (by omega), by rw [he]; exact h3, by rw [h4, hn]; simp; omega, by rw [he]; exact h5⟩
      · rw [if_neg hc] at h ⊢
        by_cases h0 : c = 0 ∧ 0 < i
        · rw [if_pos h0] at h; simp at h
        · rw [if_neg h0]
          refine ⟨c, by rw [numL_small (by omega)]; exact ⟨r, rfl⟩, by omega, by simp [Nat.mul_comm], by rw [numL_small (by omega)]; simp, h64 c ha hi (by omega) (by omega)⟩

theorem scan_zero : ∀ (l : List Nat) (i acc : Nat), (scan i acc l).2 = 0 → (scan i acc l).1 = 0
  | [], _, _, _ => by simp [scan]
  | c :: r, i, acc, h => by
    rw [scan] at h ⊢
    split
    · rfl
    · rename_i h9
      rw [if_neg h9] at h
      split
      · rename_i hc; rw [if_pos hc] at h; exact scan_zero r _ _ h
      · rename_i hc
        rw [if_neg hc] at h
        split
        · rfl
        · rename_i h0; rw [if_neg h0] at h; simp at h

/-- The number with which l begins, and how many bytes it takes; 0 and 0, if there is none. -/
def rd (l : List Nat) : Nat × Nat := scan 0 0 l
theorem rd_yes {l : List Nat} {n : Nat} (h : numL n <+: l) (hn : W64 n) : rd l = (n, (numL n).length) := by
  have := scan_yes l 0 0 n h (.inr rfl) (by simp) (by unfold W64 at hn; simpa using hn)
  simpa [rd] using this
theorem rd_some {l : List Nat} (hl : ∀ x ∈ l, x < 256) (h : (rd l).2 ≠ 0) : numL (rd l).1 <+: l ∧ (rd l).2 = (numL (rd l).1).length ∧ W64 (rd l).1 := by
  obtain ⟨m, h1, _, h3, h4, h5⟩ := scan_some l 0 0 hl (by simp) (by omega) h
  have e : (rd l).1 = m := by simpa [rd] using h3
  rw [e]
  exact ⟨h1, by simpa [rd] using h4, by unfold W64; simpa using h5⟩
theorem rd_zero {l : List Nat} (h : (rd l).2 = 0) : (rd l).1 = 0 := scan_zero l 0 0 h
theorem rd_le (l : List Nat) (hl : ∀ x ∈ l, x < 256) : (rd l).2 ≤ l.length := by
  by_cases h : (rd l).2 = 0
  · omega
  · obtain ⟨h1, h2, _⟩ := rd_some hl h
    rw [h2]; exact h1.length_le
end Go.Proofs.Ytabbgnlabiakoaa
