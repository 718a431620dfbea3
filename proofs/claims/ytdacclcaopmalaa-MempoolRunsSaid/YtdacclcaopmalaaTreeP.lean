/- Ways and heights in a tree of blocks, as plain mathematics. No program. -/
import Derived.Test.YtdacclcaopmalaaTreeN
namespace Go.Proofs.Ytdacclcaopmalaa
set_option maxRecDepth 100000
namespace TrS

/-- Blocks that can be, of unlike names. -/
structure Uq (K : List BlkD) : Prop where
  right : ∀ b ∈ K, b.Right
  one : ∀ a ∈ K, ∀ b ∈ K, a.name = b.name → a = b
theorem _root_.Go.Proofs.Ytdacclcaopmalaa.BlkD.Right.nm {b : BlkD} (h : b.Right) : b.name = b.nm := if_pos h
theorem _root_.Go.Proofs.Ytdacclcaopmalaa.BlkD.Right.name0 {b : BlkD} (h : b.Right) : b.name ≠ 0 := by
  rw [h.nm]
  have h1 := h.parts.2.2.2
  have := h1.pos; have := h1.s1
  omega
/-- The name says the slot. -/
theorem _root_.Go.Proofs.Ytdacclcaopmalaa.BlkD.Right.slot_name {b : BlkD} (h : b.Right) : b.name / 65536 = b.slot := by rw [h.nm]; exact h.parts.1
def get (K : List BlkD) (n : Int) : Option BlkD := K.find? fun b => decide (b.name = n)
theorem get_some {K : List BlkD} {n : Int} {b : BlkD} (h : get K n = some b) : b ∈ K ∧ b.name = n := by
  unfold get at h
  exact ⟨List.mem_of_find?_eq_some h, by have := List.find?_some h; simpa using this⟩
theorem get_none {K : List BlkD} {n : Int} (h : get K n = none) : ∀ b ∈ K, b.name ≠ n := by
  unfold get at h
  intro b hb
  have := List.find?_eq_none.1 h b hb
  simpa using this
theorem Uq.get {K : List BlkD} (h : Uq K) {b : BlkD} (hb : b ∈ K) : get K b.name = some b := by
  cases hg : TrS.get K b.name with
  | none => exact absurd rfl (get_none hg b hb)
  | some c =>
    obtain ⟨h1, h2⟩ := get_some hg
    rw [h.one c h1 b hb h2]
theorem Uq.get_zero {K : List BlkD} (h : Uq K) : TrS.get K 0 = none := by
  cases hg : TrS.get K 0 with
  | none => rfl
  | some c =>
    obtain ⟨h1, h2⟩ := get_some hg
    exact absurd h2 (h.right c h1).name0
def pathF : Nat → List BlkD → Int → List Int
  | 0, _, _ => []
  | f + 1, K, n => match get K n with
    | none => []
    | some b => pathF f K b.parent ++ [n]
def slots : Nat := 4095
theorem slots_eq : slots = 4095 := rfl
/-- The way to a block. -/
def path (K : List BlkD) (n : Int) : List Int := pathF (slots + 1) K n
/-- The parent is earlier. -/
theorem Uq.slot_lt {K : List BlkD} (h : Uq K) {b c : BlkD} (hb : b ∈ K) (hc : c ∈ K) (hn : c.name = b.parent) : c.slot < b.slot := by
  rcases (h.right b hb).p with hp | ⟨_, hp⟩
  · rw [hp] at hn; exact absurd hn (h.right c hc).name0
  · rw [← hn, (h.right c hc).slot_name] at hp; exact hp
theorem Uq.fuel {K : List BlkD} (h : Uq K) : ∀ (k : Nat) (b : BlkD), b ∈ K → b.slot ≤ k → ∀ f g, k < f → k < g → pathF f K b.name = pathF g K b.name
  | 0, b, hb, hk, _, _, _, _ => by have := (h.right b hb).s.1; omega
  | k + 1, b, hb, hk, f + 1, g + 1, hf, hg => by
    simp only [pathF, h.get hb]
    congr 1
    cases hq : TrS.get K b.parent with
    | none =>
      have e : ∀ f, pathF f K b.parent = [] := fun f => by cases f <;> simp [pathF, hq]
      rw [e, e]
    | some c =>
      obtain ⟨h1, h2⟩ := get_some hq
      have h3 := h.slot_lt hb h1 h2
      rw [← h2]
      exact h.fuel k c h1 (by omega) f g (by omega) (by omega)
theorem path_none {K : List BlkD} {n : Int} (h : get K n = none) : path K n = [] := by simp [path, pathF, h]
/-- The way to a known one goes by its parent. -/
theorem Uq.path {K : List BlkD} (h : Uq K) {b : BlkD} (hb : b ∈ K) : path K b.name = path K b.parent ++ [b.name] := by
  have hs := (h.right b hb).s
  have e : TrS.path K b.name = pathF slots K b.parent ++ [b.name] := by simp only [TrS.path, pathF, h.get hb]
  rw [e]
  refine congrArg (fun l => l ++ [b.name]) ?_
  cases hq : TrS.get K b.parent with
  | none =>
    rw [path_none hq]
    have e2 : ∀ f, pathF f K b.parent = [] := fun f => by cases f <;> simp [pathF, hq]
    exact e2 _
  | some c =>
    obtain ⟨h1, h2⟩ := get_some hq
    have h3 := h.slot_lt hb h1 h2
    rw [← h2]
    have h4 := (h.right c h1).s
    have h5 := slots_eq
    exact h.fuel c.slot.toNat c h1 (by omega) slots (slots + 1) (by omega) (by omega)
theorem Uq.path_zero {K : List BlkD} (h : Uq K) : TrS.path K 0 = [] := path_none h.get_zero
def height (K : List BlkD) (n : Int) : Int := if n = 0 then 0 else if (get K n).isNone then -1 else ((path K n).length : Nat)
/-- Among known ones that stand: one higher than its parent. -/
theorem Uq.height {K : List BlkD} (h : Uq K) (hs : Stood K) {b : BlkD} (hb : b ∈ K) : TrS.height K b.parent = TrS.height K b.name - 1 := by
  have h0 := (h.right b hb).name0
  have hn : TrS.height K b.name = ((TrS.path K b.name).length : Nat) := by
    unfold TrS.height
    rw [if_neg h0, h.get hb]; rfl
  have hl : (TrS.path K b.name).length = (TrS.path K b.parent).length + 1 := by rw [h.path hb]; simp
  rw [hn, hl]
  unfold TrS.height
  split
  · rename_i hp; rw [hp, h.path_zero]; rfl
  · rename_i hp
    have hg := hs.gr (L := K) (fun x hx => hx) b hb
    have hsome : ∃ c, TrS.get K b.parent = some c := by
      cases hg with
      | base _ h2 => exact absurd h2 hp
      | step _ h2 h3 => exact ⟨_, by rw [← h3]; exact h.get h2.mem⟩
    obtain ⟨c, hc⟩ := hsome
    rw [hc]
    simp
/-- More blocks: the ways stay. -/
theorem Uq.path_mono {K K' : List BlkD} (h : Uq K) (h' : Uq K') (hs : Stood K) (hk : ∀ x ∈ K, x ∈ K') : ∀ b ∈ K, TrS.path K' b.name = TrS.path K b.name := by
  intro b hb
  have hg := hs.gr (L := K) (fun x hx => hx) b hb
  induction hg with
  | base h1 h2 => rw [h'.path (hk _ h1), h.path h1, h2, h.path_zero, h'.path_zero]
  | step h1 h2 h3 ih => rw [h'.path (hk _ h1), h.path h1, ← h3, ih h2.mem]
/-- A way's last one, and the way to each one on it. -/
theorem Uq.path_pre {K : List BlkD} (h : Uq K) (hs : Stood K) : ∀ b ∈ K, ∀ n ∈ TrS.path K b.name, ∃ c ∈ K, c.name = n ∧ TrS.path K n <+: TrS.path K b.name := by
  intro b hb
  have hg := hs.gr (L := K) (fun x hx => hx) b hb
  induction hg with
  | base h1 h2 =>
    intro n hn
    rw [h.path h1, h2, h.path_zero, List.nil_append, List.mem_singleton] at hn
    exact ⟨_, h1, hn.symm, by rw [hn]; exact List.prefix_refl _⟩
  | step h1 h2 h3 ih =>
    intro n hn
    rw [h.path h1, List.mem_append] at hn
    rcases hn with hn | hn
    · rw [← h3] at hn
      obtain ⟨c, g1, g2, g3⟩ := ih h2.mem n hn
      exact ⟨c, g1, g2, g3.trans (by rw [h.path h1, h3]; exact List.prefix_append _ _)⟩
    · rw [List.mem_singleton] at hn
      exact ⟨_, h1, hn.symm, by rw [hn]; exact List.prefix_refl _⟩
end TrS
end Go.Proofs.Ytdacclcaopmalaa
