/- The block of bytes, as plain mathematics over the list of bytes. No program. -/
import Derived.Test.YtdacclcaopmalaaBlkN
import Derived.Test.YtdacclcaopmalaaTXB
namespace Go.Proofs.Ytdacclcaopmalaa
set_option maxRecDepth 100000

def BlkD.zero : BlkD := ⟨0, 0, 0, 0, []⟩
theorem BlkD.zero_no : ¬ BlkD.zero.Right := fun h => by have := h.s.1; simp [BlkD.zero] at this
/-- The block of bytes, if they are one's. -/
def rdBlk (b : List Nat) : Option BlkD := match rns 4 b with
  | some ([s, m, v, p], rest) => match rdLs rest with
    | some l => if (⟨s, m, v, p, l⟩ : BlkD).Right then some ⟨s, m, v, p, l⟩ else none
    | none => none
  | _ => none
section
variable {b rest : List Nat} {s m v p : Int} {l : List TxD}
theorem rdBlk_c1 (h : rns 4 b = none) : rdBlk b = none := by unfold rdBlk; rw [h]
theorem rdBlk_c2 (h : rns 4 b = some ([s, m, v, p], rest)) (hl : rdLs rest = none) : rdBlk b = none := by unfold rdBlk; rw [h]; simp only; rw [hl]
theorem rdBlk_c3 (h : rns 4 b = some ([s, m, v, p], rest)) (hl : rdLs rest = some l) (hr : ¬ (⟨s, m, v, p, l⟩ : BlkD).Right) : rdBlk b = none := by unfold rdBlk; rw [h]; simp only; rw [hl]; exact if_neg hr
theorem rdBlk_c4 (h : rns 4 b = some ([s, m, v, p], rest)) (hl : rdLs rest = some l) (hr : (⟨s, m, v, p, l⟩ : BlkD).Right) : rdBlk b = some ⟨s, m, v, p, l⟩ := by unfold rdBlk; rw [h]; simp only; rw [hl]; exact if_pos hr
end
theorem rdBlk_iff {b : List Nat} (hb : ∀ x ∈ b, x < 256) (x : BlkD) : rdBlk b = some x ↔ IsBlk b x := by
  constructor
  · intro h
    unfold rdBlk at h
    split at h
    · rename_i s m v p rest hr
      split at h
      · rename_i l hl
        split at h
        · rename_i hx
          cases h
          obtain ⟨h1, _, _⟩ := rns_was 4 b _ _ hb hr
          have hrest : ∀ y ∈ rest, y < 256 := fun y hy => hb y (by rw [h1]; exact List.mem_append_right _ hy)
          exact isBlk_of hb hr ((rdLs_iff hrest l).1 hl) hx
        · cases h
      · cases h
    · cases h
  · intro h
    have h1 := isBlk_rns h
    have h2 : rdLs (lsB x.txs) = some x.txs := (rdLs_iff (nuL_lt _) x.txs).2 ⟨h.1.t, rfl⟩
    exact rdBlk_c4 h1 h2 h.1
theorem rdBlk_none {b : List Nat} (hb : ∀ x ∈ b, x < 256) (h : ∀ x, ¬ IsBlk b x) : rdBlk b = none := by
  cases hr : rdBlk b with
  | none => rfl
  | some x => exact absurd ((rdBlk_iff hb x).1 hr) (h x)
/-- What is told of bytes that are none's. -/
def bOr (o : Option BlkD) : BlkD := match o with | some x => x | none => BlkD.zero
def bB (x : BlkD) : List Nat := if x.Right then x.bytes else []
def bE (x : BlkD) : Nat := if x.Right then 0 else 71
def obE (o : Option BlkD) : Nat := match o with | some _ => 0 | none => 71
/-- The slot and the miner of any number. -/
def nmS (n : Int) : Int := if NmOk n then n / 65536 else 0
def nmM (n : Int) : Int := if NmOk n then n / 256 % 256 else 0
theorem nmS_nm {x : BlkD} (h : x.Right) : nmS x.nm = x.slot := by rw [nmS, if_pos h.parts.2.2.2]; exact h.parts.1
theorem nmM_nm {x : BlkD} (h : x.Right) : nmM x.nm = x.miner := by rw [nmM, if_pos h.parts.2.2.2]; exact h.parts.2.1
theorem BlkD.bytes_len {x : BlkD} (h : x.Right) : x.bytes.length ≤ 110 := by
  have h1 := nuL_len x.nums fun y hy => by have := h.rdb y hy; omega
  have h2 := x.nums_len
  have h3 := h.t.len
  unfold BlkD.bytes; omega
theorem BlkD.bytes_lt (x : BlkD) : ∀ y ∈ x.bytes, y < 256 := nuL_lt _
/-- A child of a block: it can be just if its slot is greater. -/
theorem child_right {x : BlkD} (h : x.Right) (s : Int) : (⟨s, x.miner, 0, x.nm, []⟩ : BlkD).Right ↔ x.slot < s ∧ s ≤ 4095 := by
  have hp := h.parts
  have hs := h.s
  constructor
  · rintro ⟨h1, _, _, h4, _⟩
    rcases h4 with h4 | ⟨_, h5⟩
    · have := hp.1
      simp only at h4
      rw [h4] at this
      omega
    · simp only at h5 h1
      rw [hp.1] at h5
      exact ⟨h5, h1.2⟩
  · rintro ⟨h1, h2⟩
    exact ⟨⟨by simp only; omega, h2⟩, h.m, ⟨by simp, by simp⟩, .inr ⟨hp.2.2.2, by simp only; rw [hp.1]; exact h1⟩, ⟨by simp, by simp, by simp⟩⟩
end Go.Proofs.Ytdacclcaopmalaa
