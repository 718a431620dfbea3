/- Draws: who wins where, as plain mathematics. -/
import Derived.Test.YtnbnbnjojnlcpaaFD
namespace Go.Proofs.Ytnbnbnjojnlcpaa
open Go.RowKit

/-- Draws that can be. -/
def DrOk (l : List Int) : Prop := l.length ≤ 200 ∧ ∀ x ∈ l, 0 ≤ x ∧ x ≤ 127
instance (l : List Int) : Decidable (DrOk l) := by unfold DrOk; infer_instance
def lchk (l : List Int) : Int := if DrOk l then 0 else 101
/-- Does the bit of node n stand in d? -/
def bitN (d : Int) (n : Nat) : Bool := decide (d / 2 ^ n % 2 = 1)
/-- Does node n win at place i (slot i + 1)? -/
def wn (l : List Int) (i n : Nat) : Bool := match l[i]? with
  | some d => bitN d n
  | none => false
def win (l : List Int) (s n : Int) : Bool := decide (1 ≤ s ∧ s ≤ l.length ∧ 0 ≤ n ∧ n ≤ 6) && wn l (s - 1).toNat n.toNat
/-- The numbers below k, moved by c, of which p tells. -/
def pk (c : Nat) (p : Nat → Bool) : Nat → List Int
  | 0 => []
  | k + 1 => pk c p k ++ if p k then [((k + c : Nat) : Int)] else []
def wns (l : List Int) (s : Int) : List Int := pk 0 (fun n => win l s n) 7
def sls (l : List Int) (n : Int) : List Int := pk 1 (fun i => win l ((i + 1 : Nat) : Int) n) l.length
/-- At place i at most one wins, and one of who. -/
def good (l who : List Int) (i : Nat) : Prop := (wns l ((i + 1 : Nat) : Int)).length ≤ 1 ∧ ∀ x ∈ wns l ((i + 1 : Nat) : Int), x ∈ who
instance (l who : List Int) (i : Nat) : Decidable (good l who i) := by unfold good; infer_instance
def sgl (l who : List Int) : Bool := decide (∀ i, i < l.length → good l who i)

theorem pk_yes {c : Nat} {p : Nat → Bool} {k : Nat} (h : p k = true) : pk c p (k + 1) = pk c p k ++ [((k + c : Nat) : Int)] := by rw [pk, if_pos h]
theorem pk_no {c : Nat} {p : Nat → Bool} {k : Nat} (h : p k = false) : pk c p (k + 1) = pk c p k := by rw [pk, if_neg (by rw [h]; decide), List.append_nil]
theorem pk_len {c : Nat} {p : Nat → Bool} : ∀ k, (pk c p k).length ≤ k
  | 0 => Nat.le_refl _
  | k + 1 => by
    have := pk_len (c := c) (p := p) k
    rw [pk, List.length_append]; split <;> simp <;> omega
theorem pk_mem {c : Nat} {p : Nat → Bool} {x : Int} : ∀ {k : Nat}, x ∈ pk c p k ↔ ∃ i, i < k ∧ p i = true ∧ x = ((i + c : Nat) : Int)
  | 0 => by simp [pk]
  | k + 1 => by
    rw [pk, List.mem_append, pk_mem]
    constructor
    · rintro (⟨i, h1, h2, h3⟩ | h)
      · exact ⟨i, by omega, h2, h3⟩
      · split at h
        · rename_i hp
          exact ⟨k, by omega, hp, by simpa using h⟩
        · simp at h
    · rintro ⟨i, h1, h2, h3⟩
      by_cases e : i = k
      · subst e; right; rw [if_pos h2]; simpa using h3
      · exact .inl ⟨i, by omega, h2, h3⟩
theorem pk_congr {c : Nat} {p q : Nat → Bool} : ∀ {k : Nat}, (∀ i, i < k → p i = q i) → pk c p k = pk c q k
  | 0, _ => rfl
  | k + 1, h => by rw [pk, pk, pk_congr (fun i hi => h i (by omega)), h k (by omega)]
theorem pk_lenc {c c' : Nat} {p : Nat → Bool} : ∀ k, (pk c p k).length = (pk c' p k).length
  | 0 => rfl
  | k + 1 => by rw [pk, pk, List.length_append, List.length_append, pk_lenc (c := c) (c' := c') k]; split <;> rfl
theorem pk_count {c : Nat} {p : Nat → Bool} {i : Nat} : ∀ k, (pk c p k).count ((i + c : Nat) : Int) = if i < k ∧ p i = true then 1 else 0
  | 0 => by simp [pk]
  | k + 1 => by
    rw [pk, List.count_append, pk_count k]
    by_cases e : i = k
    · subst e
      rw [if_neg (by omega)]
      cases h : p i <;> simp
    · have h1 : (if p k = true then [((k + c : Nat) : Int)] else []).count ((i + c : Nat) : Int) = 0 := by
        split
        · rw [List.count_eq_zero]; simp; omega
        · rfl
      rw [h1, Nat.add_zero]
      have h2 : (i < k ∧ p i = true) ↔ (i < k + 1 ∧ p i = true) := ⟨fun h => ⟨by omega, h.2⟩, fun h => ⟨by omega, h.2⟩⟩
      simp only [h2]
/-- How many p tells of. -/
theorem pk_len_yes {c : Nat} {p : Nat → Bool} {k : Nat} : (pk c p (k + 1)).length = (pk c p k).length + if p k then 1 else 0 := by
  rw [pk, List.length_append]; split <;> rfl
theorem pk_or {c n : Nat} {p : Nat → Bool} : ∀ {k : Nat}, (pk c (fun i => i == n || p i) k).length = (pk c p k).length + if n < k ∧ p n = false then 1 else 0
  | 0 => by simp [pk]
  | k + 1 => by
    rw [pk_len_yes, pk_len_yes, pk_or (k := k)]
    by_cases e : n = k
    · subst e
      have h1 : ¬ (n < n ∧ p n = false) := by omega
      rw [if_neg h1]
      cases h : p n <;> simp
    · have h2 : (n < k ∧ p n = false) ↔ (n < k + 1 ∧ p n = false) := ⟨fun h => ⟨by omega, h.2⟩, fun h => ⟨by omega, h.2⟩⟩
      simp only [h2]
      have h3 : (k == n) = false := by simp; omega
      rw [h3, Bool.false_or]; omega

theorem DrOk.at {l : List Int} (h : DrOk l) {i : Nat} (hi : i < l.length) : 0 ≤ l[i] ∧ l[i] ≤ 127 := h.2 _ (List.getElem_mem hi)
theorem win_at {l : List Int} {i n : Nat} (hi : i < l.length) (hn : n < 7) : win l ((i : Int) + 1) (n : Int) = bitN l[i] n := by
  unfold win wn
  rw [decide_eq_true (by omega), Bool.true_and]
  have e1 : ((i : Int) + 1 - 1).toNat = i := by omega
  have e2 : ((n : Int)).toNat = n := by omega
  rw [e1, e2, List.getElem?_eq_getElem hi]
theorem win_out {l : List Int} {s n : Int} (h : ¬ (1 ≤ s ∧ s ≤ l.length ∧ 0 ≤ n ∧ n ≤ 6)) : win l s n = false := by
  unfold win; rw [decide_eq_false h, Bool.false_and]
theorem win_in {l : List Int} {s n : Int} (h : win l s n = true) : 1 ≤ s ∧ s ≤ l.length ∧ 0 ≤ n ∧ n ≤ 6 := by
  by_cases g : 1 ≤ s ∧ s ≤ l.length ∧ 0 ≤ n ∧ n ≤ 6
  · exact g
  · rw [win_out g] at h; cases h

/-! ### Bits -/
theorem and_bit (d k : Nat) (hd : d < 128) (hk : k < 7) : (bits .and .i64 (d : Int) ((2 ^ k : Nat) : Int) != 0) = bitN (d : Int) k := by
  have h : ∀ (d : Fin 128) (k : Fin 7), (bits .and .i64 (d.val : Int) ((2 ^ k.val : Nat) : Int) != 0) = bitN (d.val : Int) k.val := by decide +kernel
  exact h ⟨d, hd⟩ ⟨k, hk⟩
/-- d with the bit of n. -/
def orb (d : Int) (n : Nat) : Int := bits .or .i64 d ((2 ^ n : Nat) : Int)
theorem orb_ok {d : Int} {n : Nat} (h0 : 0 ≤ d) (h1 : d ≤ 127) (hn : n < 7) : 0 ≤ orb d n ∧ orb d n ≤ 127 := by
  have h : ∀ (d : Fin 128) (k : Fin 7), 0 ≤ orb (d.val : Int) k.val ∧ orb (d.val : Int) k.val ≤ 127 := by decide +kernel
  have := h ⟨d.toNat, by omega⟩ ⟨n, hn⟩
  simp only at this
  rwa [show ((d.toNat : Nat) : Int) = d from by omega] at this
theorem orb_bit {d : Int} {n k : Nat} (h0 : 0 ≤ d) (h1 : d ≤ 127) (hn : n < 7) (hk : k < 7) : bitN (orb d n) k = (k == n || bitN d k) := by
  have h : ∀ (d : Fin 128) (n k : Fin 7), bitN (orb (d.val : Int) n.val) k.val = (k.val == n.val || bitN (d.val : Int) k.val) := by decide +kernel
  have := h ⟨d.toNat, by omega⟩ ⟨n, hn⟩ ⟨k, hk⟩
  simp only at this
  rwa [show ((d.toNat : Nat) : Int) = d from by omega] at this
/-- Which numbers have bits beside the first seven. -/
theorem andNot_yes {d : Int} (h0 : 0 ≤ d) (h1 : d ≤ 127) : bits .andNot .i64 d 127 = 0 := by
  have h : ∀ d : Fin 128, bits .andNot .i64 (d.val : Int) 127 = 0 := by decide +kernel
  have := h ⟨d.toNat, by omega⟩
  simp only at this
  rwa [show ((d.toNat : Nat) : Int) = d from by omega] at this
theorem andNot_no {d : Int} (hlo : -9223372036854775808 ≤ d) (hhi : d ≤ 9223372036854775807) (h : bits .andNot .i64 d 127 = 0) : 0 ≤ d ∧ d ≤ 127 := by
  have e : bits .andNot .i64 d 127 = IntKind.i64.wrap ((BitVec.ofInt 64 d &&& ~~~(BitVec.ofInt 64 127)).toNat : Int) := rfl
  rw [e] at h
  obtain ⟨r, hr⟩ : ∃ r, r = BitVec.ofInt 64 d &&& ~~~(BitVec.ofInt 64 127) := ⟨_, rfl⟩
  rw [← hr] at h
  have hlt := r.isLt
  have hz : r.toNat = 0 := by
    simp [IntKind.wrap, IntKind.signed, IntKind.bits] at h
    omega
  have hr0 : r = 0#64 := BitVec.eq_of_toNat_eq (by rw [hz]; rfl)
  have hd : (BitVec.ofInt 64 d).toNat < 2 ^ 7 := by
    refine Nat.lt_pow_two_of_testBit _ fun i hi => ?_
    by_cases h64 : i < 64
    · have h2 : (BitVec.ofInt 64 d &&& ~~~(BitVec.ofInt 64 127)).getLsbD i = false := by rw [← hr, hr0]; simp
      rw [BitVec.getLsbD_and, BitVec.getLsbD_not] at h2
      have h3 : (BitVec.ofInt 64 127).getLsbD i = false := by
        rw [show BitVec.ofInt 64 127 = BitVec.ofNat 64 127 from rfl, BitVec.getLsbD_ofNat]
        have : Nat.testBit 127 i = false := Nat.testBit_lt_two_pow (Nat.lt_of_lt_of_le (by decide : 127 < 2 ^ 7) (Nat.pow_le_pow_right (by decide) hi))
        rw [this]; simp
      rw [h3] at h2
      simp only [h64, decide_true, Bool.not_false, Bool.and_true] at h2
      exact h2
    · exact Nat.testBit_lt_two_pow (Nat.lt_of_lt_of_le (BitVec.ofInt 64 d).isLt (Nat.pow_le_pow_right (by decide) (by omega)))
  rw [BitVec.toNat_ofInt] at hd
  omega
end Go.Proofs.Ytnbnbnjojnlcpaa
