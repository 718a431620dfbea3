/- Blocks as a tree, those that wait among them, as plain mathematics. No program. · Ways and heights in a tree of blocks, as plain mathematics. No program. · Rising lists of numbers, the tip of a tree, what two ways have in common, as plain mathematics. No program. · What holds of a tree behind whatever came, as plain mathematics. No program. · A map of records by numbers, as a list; the object that is a tree of blocks: what it holds. · What is asked of a tree: whether one is known, its height, how many, what waits. · A new tree; whether a block is ready; the block of a name; the tip; whether a number is in a list. -/
import Derived.Test.YtdoeoncmhaihbaaBKA
import Derived.Test.YtdoeoncmhaihbaaSHG
import Derived.Test.YtdoeoncmhaihbaaMapO
import Derived.Test.YtdoeoncmhaihbaaRowSt
import Derived.Maps.RangeWalk
import Derived.Maps.OwnSet
import Derived.Lib.SlKeysI
namespace Go.Proofs.Ytdoeoncmhaihbaa
set_option maxRecDepth 100000

/-- Known blocks, and those that wait, in the order in which they came. -/
structure TrS where
  known : List BlkD
  wait : List BlkD
namespace TrS
def has (K : List BlkD) (n : Int) : Bool := K.any fun x => decide (x.name = n)
def ready (K : List BlkD) (b : BlkD) : Bool := decide (b.parent = 0) || has K b.parent
/-- The first one that stands on one that is known, and the others. -/
def pick (K : List BlkD) : List BlkD → Option (BlkD × List BlkD)
  | [] => none
  | x :: W => if ready K x then some (x, W) else (pick K W).map fun p => (p.1, x :: p.2)
/-- As long as one that waits stands on one that is known. -/
def drain : Nat → List BlkD → List BlkD → List Int → List BlkD × List BlkD × List Int
  | 0, K, W, o => (K, W, o)
  | f + 1, K, W, o => match pick K W with
    | none => (K, W, o)
    | some (x, r) => if K.length < 400 then drain f (K ++ [x]) r (o ++ [x.name]) else drain f K r o
def add (t : TrS) (b : BlkD) : TrS × List Int × Bool :=
  if b.name = 0 ∨ has t.known b.name = true ∨ has t.wait b.name = true then (t, [], false)
  else if ready t.known b then
    if t.known.length < 400 then (let d := drain t.wait.length (t.known ++ [b]) t.wait [b.name]; (⟨d.1, d.2.1⟩, d.2.2, true)) else (t, [], false)
  else (⟨t.known, if 16 < (t.wait ++ [b]).length then (t.wait ++ [b]).drop 1 else t.wait ++ [b]⟩, [], true)

theorem has_iff {K : List BlkD} {n : Int} : has K n = true ↔ ∃ x ∈ K, x.name = n := by simp [has]
theorem ready_iff {K : List BlkD} {b : BlkD} : ready K b = true ↔ b.parent = 0 ∨ ∃ x ∈ K, x.name = b.parent := by simp [ready, has]
theorem ready_mono {K K' : List BlkD} {b : BlkD} (h : ready K b = true) (hs : ∀ x ∈ K, x ∈ K') : ready K' b = true := by
  rw [ready_iff] at h ⊢
  exact h.imp id fun ⟨x, h1, h2⟩ => ⟨x, hs x h1, h2⟩
theorem pick_none {K : List BlkD} : ∀ {W : List BlkD}, pick K W = none → ∀ x ∈ W, ready K x = false
  | [], _, x, hx => by simp at hx
  | y :: W, h, x, hx => by
    unfold pick at h
    split at h
    · cases h
    · rename_i hn
      have h' : pick K W = none := by
        cases hp : pick K W with
        | none => rfl
        | some p => rw [hp] at h; cases h
      rcases List.mem_cons.1 hx with rfl | hx
      · simpa using hn
      · exact pick_none h' x hx
theorem pick_some {K : List BlkD} : ∀ {W : List BlkD} {x : BlkD} {r : List BlkD}, pick K W = some (x, r) → ready K x = true ∧ W.Perm (x :: r)
  | [], x, r, h => by cases h
  | y :: W, x, r, h => by
    unfold pick at h
    split at h
    · rename_i hy
      simp only [Option.some.injEq, Prod.mk.injEq] at h
      obtain ⟨rfl, rfl⟩ := h
      exact ⟨hy, List.Perm.refl _⟩
    · cases hp : pick K W with
      | none => rw [hp] at h; cases h
      | some p =>
        rw [hp] at h
        simp only [Option.map_some, Option.some.injEq, Prod.mk.injEq] at h
        obtain ⟨rfl, rfl⟩ := h
        obtain ⟨h1, h2⟩ := pick_some (x := p.1) (r := p.2) hp
        exact ⟨h1, (List.Perm.cons y h2).trans (List.Perm.swap p.1 y p.2)⟩
/-- Each known one stands on one that was known ahead of it. -/
inductive Stood : List BlkD → Prop
  | nil : Stood []
  | snoc {K : List BlkD} {b : BlkD} : Stood K → ready K b = true → Stood (K ++ [b])
/-- What a drain leaves. -/
theorem drain_spec : ∀ (f : Nat) (K W : List BlkD) (o : List Int), W.length ≤ f → Stood K →
    let d := drain f K W o
    Stood d.1 ∧ K <+: d.1 ∧ (∀ x ∈ d.2.1, ready d.1 x = false) ∧ d.2.1.length ≤ W.length ∧ (∀ x ∈ d.2.1, x ∈ W) ∧ (∀ x ∈ d.1, x ∈ K ∨ x ∈ W) ∧ (K.length + W.length ≤ 400 → (d.1 ++ d.2.1).Perm (K ++ W))
  | 0, K, W, o, h, hs => by
    have : W = [] := List.eq_nil_of_length_eq_zero (by omega)
    subst this
    exact ⟨hs, List.prefix_refl _, by simp [drain], by simp [drain], by simp [drain], by simp [drain], fun _ => by simp [drain]⟩
  | f + 1, K, W, o, h, hs => by
    cases hp : pick K W with
    | none =>
      simp only [drain, hp]
      exact ⟨hs, List.prefix_refl _, pick_none hp, Nat.le_refl _, fun x hx => hx, fun x hx => .inl hx, fun _ => List.Perm.refl _⟩
    | some p =>
      obtain ⟨x, r⟩ := p
      obtain ⟨h1, h2⟩ := pick_some hp
      have hl := h2.length_eq
      simp only [List.length_cons] at hl
      have hxW : x ∈ W := h2.mem_iff.2 (List.mem_cons_self ..)
      have hrW : ∀ y ∈ r, y ∈ W := fun y hy => h2.mem_iff.2 (List.mem_cons_of_mem _ hy)
      simp only [drain, hp]
      split
      · rename_i hK
        obtain ⟨g1, g2, g3, g4, g5, g6, g7⟩ := drain_spec f (K ++ [x]) r (o ++ [x.name]) (by omega) (.snoc hs h1)
        refine ⟨g1, (List.prefix_append _ _).trans g2, g3, by omega, fun y hy => hrW y (g5 y hy), fun y hy => ?_, fun hc => ?_⟩
        · rcases g6 y hy with h3 | h3
          · rcases List.mem_append.1 h3 with h4 | h4
            · exact .inl h4
            · rw [List.mem_singleton] at h4; subst h4; exact .inr hxW
          · exact .inr (hrW y h3)
        · have := g7 (by rw [List.length_append, List.length_singleton]; omega)
          refine this.trans ?_
          rw [List.append_assoc]
          exact List.Perm.append_left K h2.symm
      · rename_i hK
        obtain ⟨g1, g2, g3, g4, g5, g6, g7⟩ := drain_spec f K r o (by omega) hs
        refine ⟨g1, g2, g3, by omega, fun y hy => hrW y (g5 y hy), fun y hy => (g6 y hy).imp id (hrW y), fun hc => ?_⟩
        omega
/-- In a list of blocks: those whose way leads to the ground. -/
inductive Gr (L : List BlkD) : BlkD → Prop
  | base {b : BlkD} : b ∈ L → b.parent = 0 → Gr L b
  | step {b c : BlkD} : b ∈ L → Gr L c → c.name = b.parent → Gr L b
theorem Gr.mem {L : List BlkD} {b : BlkD} (h : Gr L b) : b ∈ L := by cases h <;> assumption
theorem Gr.perm {L M : List BlkD} (h : ∀ x ∈ L, x ∈ M) {b : BlkD} (hb : Gr L b) : Gr M b := by
  induction hb with
  | base h1 h2 => exact .base (h _ h1) h2
  | step h1 _ h3 ih => exact .step (h _ h1) ih h3
theorem Stood.gr {L : List BlkD} : ∀ {K : List BlkD}, Stood K → (∀ x ∈ K, x ∈ L) → ∀ x ∈ K, Gr L x := by
  intro K hK
  induction hK with
  | nil => intro _ x hx; simp at hx
  | snoc hs hr ih =>
    rename_i K b
    intro hm x hx
    have ih' := ih fun y hy => hm y (List.mem_append_left _ hy)
    rcases List.mem_append.1 hx with hx | hx
    · exact ih' x hx
    · rw [List.mem_singleton] at hx; subst hx
      have hxL := hm x (List.mem_append_right _ (List.mem_singleton_self _))
      rcases ready_iff.1 hr with h1 | ⟨c, h1, h2⟩
      · exact .base hxL h1
      · exact .step hxL (ih' c h1) h2
/-- Where none that waits stands on one that is known, all that can be known are. -/
theorem known_all {K W L : List BlkD} (hp : ∀ x, x ∈ L ↔ x ∈ K ∨ x ∈ W) (hw : ∀ x ∈ W, ready K x = false) {b : BlkD} (hb : Gr L b) : b ∈ K := by
  induction hb with
  | base h1 h2 =>
    rcases (hp _).1 h1 with h | h
    · exact h
    · have := hw _ h
      rw [ready_iff.2 (.inl h2)] at this; cases this
  | step h1 _ h3 ih =>
    rcases (hp _).1 h1 with h | h
    · exact h
    · have := hw _ h
      rw [ready_iff.2 (.inr ⟨_, ih, h3⟩)] at this; cases this
/-- Behind few blocks of unlike names, in whichever order they came: known are just those whose way leads to the ground. -/
structure After (L : List BlkD) (t : TrS) : Prop where
  st : Stood t.known
  perm : (t.known ++ t.wait).Perm L
  calm : ∀ x ∈ t.wait, ready t.known x = false
theorem After.known {L : List BlkD} {t : TrS} (h : After L t) (b : BlkD) : b ∈ t.known ↔ Gr L b := by
  have hp : ∀ x, x ∈ L ↔ x ∈ t.known ∨ x ∈ t.wait := fun x => by rw [← h.perm.mem_iff, List.mem_append]
  exact ⟨fun hb => h.st.gr (fun x hx => (hp x).2 (.inl hx)) b hb, fun hb => known_all hp h.calm hb⟩
theorem After.nil : After [] ⟨[], []⟩ := ⟨.nil, List.Perm.refl _, by simp⟩
theorem After.add {L : List BlkD} {t : TrS} (h : After L t) {b : BlkD} (h0 : b.name ≠ 0) (hn : ∀ x ∈ L, x.name ≠ b.name) (hl : L.length < 16) : After (L ++ [b]) (add t b).1 := by
  have hlen := h.perm.length_eq
  rw [List.length_append] at hlen
  have hk : has t.known b.name = false := by
    cases hh : has t.known b.name with
    | false => rfl
    | true => obtain ⟨x, h1, h2⟩ := has_iff.1 hh; exact absurd h2 (hn x (h.perm.mem_iff.1 (List.mem_append_left _ h1)))
  have hwt : has t.wait b.name = false := by
    cases hh : has t.wait b.name with
    | false => rfl
    | true => obtain ⟨x, h1, h2⟩ := has_iff.1 hh; exact absurd h2 (hn x (h.perm.mem_iff.1 (List.mem_append_right _ h1)))
  unfold TrS.add
  rw [if_neg (by rw [hk, hwt]; simp [h0])]
  split
  · rename_i hr
    rw [if_pos (by omega)]
    obtain ⟨g1, g2, g3, g4, g5, g6, g7⟩ := drain_spec t.wait.length (t.known ++ [b]) t.wait [b.name] (Nat.le_refl _) (.snoc h.st hr)
    refine ⟨g1, ?_, g3⟩
    refine (g7 (by rw [List.length_append, List.length_singleton]; omega)).trans ?_
    have : (t.known ++ [b] ++ t.wait).Perm (t.known ++ t.wait ++ [b]) := by
      rw [List.append_assoc, List.append_assoc]
      exact List.Perm.append_left _ List.perm_append_comm
    exact this.trans (List.Perm.append_right _ h.perm)
  · rename_i hr
    have hw16 : ¬ 16 < (t.wait ++ [b]).length := by rw [List.length_append, List.length_singleton]; omega
    refine ⟨h.st, ?_, ?_⟩
    · show (t.known ++ (if 16 < (t.wait ++ [b]).length then (t.wait ++ [b]).drop 1 else t.wait ++ [b])).Perm _
      rw [if_neg hw16, ← List.append_assoc]
      exact List.Perm.append_right _ h.perm
    · show ∀ x ∈ (if 16 < (t.wait ++ [b]).length then (t.wait ++ [b]).drop 1 else t.wait ++ [b]), _
      rw [if_neg hw16]
      intro x hx
      rcases List.mem_append.1 hx with hx | hx
      · exact h.calm x hx
      · rw [List.mem_singleton] at hx; subst hx; simpa using hr
/-- In whichever order: the same are known, as many wait. -/
theorem After.turns {L M : List BlkD} {t u : TrS} (h : After L t) (k : After M u) (hp : L.Perm M) : (∀ b, b ∈ t.known ↔ b ∈ u.known) ∧ (∀ b, Gr L b ↔ Gr M b) ∧ t.known.length + t.wait.length = u.known.length + u.wait.length := by
  have hg : ∀ b, Gr L b ↔ Gr M b := fun b => ⟨fun h => h.perm fun x hx => hp.mem_iff.1 hx, fun h => h.perm fun x hx => hp.mem_iff.2 hx⟩
  refine ⟨fun b => by rw [h.known, k.known]; exact hg b, hg, ?_⟩
  have h1 := h.perm.length_eq; have h2 := k.perm.length_eq; have h3 := hp.length_eq
  rw [List.length_append] at h1 h2
  omega
end TrS
end Go.Proofs.Ytdoeoncmhaihbaa
namespace Go.Proofs.Ytdoeoncmhaihbaa
set_option maxRecDepth 100000
namespace TrS

/-- Blocks that can be, of unlike names. -/
structure Uq (K : List BlkD) : Prop where
  right : ∀ b ∈ K, b.Right
  one : ∀ a ∈ K, ∀ b ∈ K, a.name = b.name → a = b
theorem _root_.Go.Proofs.Ytdoeoncmhaihbaa.BlkD.Right.nm {b : BlkD} (h : b.Right) : b.name = b.nm := if_pos h
theorem _root_.Go.Proofs.Ytdoeoncmhaihbaa.BlkD.Right.name0 {b : BlkD} (h : b.Right) : b.name ≠ 0 := by
  rw [h.nm]
  have h1 := h.parts.2.2.2
  have := h1.pos; have := h1.s1
  omega
/-- The name says the slot. -/
theorem _root_.Go.Proofs.Ytdoeoncmhaihbaa.BlkD.Right.slot_name {b : BlkD} (h : b.Right) : b.name / 65536 = b.slot := by rw [h.nm]; exact h.parts.1
def get (K : List BlkD) (n : Int) : Option BlkD := K.find? fun b => decide (b.name = n)
theorem get_some {K : List BlkD} {n : Int} {b : BlkD} (h : get K n = some b) : b ∈ K ∧ b.name = n := by
  unfold get at h
  exact ⟨List.mem_of_find?_eq_some h, by have := List.find?_some h; simpa using this⟩
theorem get_none {K : List BlkD} {n : Int} (h : get K n = none) : ∀ b ∈ K, b.name ≠ n := by
  unfold get at h
  intro b hb
  have := List.find?_eq_none.1 h b hb
  simpa using this
theorem Uq.get {K : List BlkD} (h : Uq K) {b : BlkD} (hb : b ∈ K) : get K b.name = some b := by
  cases hg : TrS.get K b.name with
  | none => exact absurd rfl (get_none hg b hb)
  | some c =>
    obtain ⟨h1, h2⟩ := get_some hg
    rw [h.one c h1 b hb h2]
theorem Uq.get_zero {K : List BlkD} (h : Uq K) : TrS.get K 0 = none := by
  cases hg : TrS.get K 0 with
  | none => rfl
  | some c =>
    obtain ⟨h1, h2⟩ := get_some hg
    exact absurd h2 (h.right c h1).name0
def pathF : Nat → List BlkD → Int → List Int
  | 0, _, _ => []
  | f + 1, K, n => match get K n with
    | none => []
    | some b => pathF f K b.parent ++ [n]
def slots : Nat := 4095
theorem slots_eq : slots = 4095 := rfl
/-- The way to a block. -/
def path (K : List BlkD) (n : Int) : List Int := pathF (slots + 1) K n
/-- The parent is earlier. -/
theorem Uq.slot_lt {K : List BlkD} (h : Uq K) {b c : BlkD} (hb : b ∈ K) (hc : c ∈ K) (hn : c.name = b.parent) : c.slot < b.slot := by
  rcases (h.right b hb).p with hp | ⟨_, hp⟩
  · rw [hp] at hn; exact absurd hn (h.right c hc).name0
  · rw [← hn, (h.right c hc).slot_name] at hp; exact hp
theorem Uq.fuel {K : List BlkD} (h : Uq K) : ∀ (k : Nat) (b : BlkD), b ∈ K → b.slot ≤ k → ∀ f g, k < f → k < g → pathF f K b.name = pathF g K b.name
  | 0, b, hb, hk, _, _, _, _ => by have := (h.right b hb).s.1; omega
  | k + 1, b, hb, hk, f + 1, g + 1, hf, hg => by
    simp only [pathF, h.get hb]
    congr 1
    cases hq : TrS.get K b.parent with
    | none =>
      have e : ∀ f, pathF f K b.parent = [] := fun f => by cases f <;> simp [pathF, hq]
      rw [e, e]
    | some c =>
      obtain ⟨h1, h2⟩ := get_some hq
      have h3 := h.slot_lt hb h1 h2
      rw [← h2]
      exact h.fuel k c h1 (by omega) f g (by omega) (by omega)
theorem path_none {K : List BlkD} {n : Int} (h : get K n = none) : path K n = [] := by simp [path, pathF, h]
/-- The way to a known one goes by its parent. -/
theorem Uq.path {K : List BlkD} (h : Uq K) {b : BlkD} (hb : b ∈ K) : path K b.name = path K b.parent ++ [b.name] := by
  have hs := (h.right b hb).s
  have e : TrS.path K b.name = pathF slots K b.parent ++ [b.name] := by simp only [TrS.path, pathF, h.get hb]
  rw [e]
  refine congrArg (fun l => l ++ [b.name]) ?_
  cases hq : TrS.get K b.parent with
  | none =>
    rw [path_none hq]
    have e2 : ∀ f, pathF f K b.parent = [] := fun f => by cases f <;> simp [pathF, hq]
    exact e2 _
  | some c =>
    obtain ⟨h1, h2⟩ := get_some hq
    have h3 := h.slot_lt hb h1 h2
    rw [← h2]
    have h4 := (h.right c h1).s
    have h5 := slots_eq
    exact h.fuel c.slot.toNat c h1 (by omega) slots (slots + 1) (by omega) (by omega)
theorem Uq.path_zero {K : List BlkD} (h : Uq K) : TrS.path K 0 = [] := path_none h.get_zero
def height (K : List BlkD) (n : Int) : Int := if n = 0 then 0 else if (get K n).isNone then -1 else ((path K n).length : Nat)
/-- Among known ones that stand: one higher than its parent. -/
theorem Uq.height {K : List BlkD} (h : Uq K) (hs : Stood K) {b : BlkD} (hb : b ∈ K) : TrS.height K b.parent = TrS.height K b.name - 1 := by
  have h0 := (h.right b hb).name0
  have hn : TrS.height K b.name = ((TrS.path K b.name).length : Nat) := by
    unfold TrS.height
    rw [if_neg h0, h.get hb]; rfl
  have hl : (TrS.path K b.name).length = (TrS.path K b.parent).length + 1 := by rw [h.path hb]; simp
  rw [hn, hl]
  unfold TrS.height
  split
  · rename_i hp; rw [hp, h.path_zero]; rfl
  · rename_i hp
    have hg := hs.gr (L := K) (fun x hx => hx) b hb
    have hsome : ∃ c, TrS.get K b.parent = some c := by
      cases hg with
      | base _ h2 => exact absurd h2 hp
      | step _ h2 h3 => exact ⟨_, by rw [← h3]; exact h.get h2.mem⟩
    obtain ⟨c, hc⟩ := hsome
    rw [hc]
    simp
/-- More blocks: the ways stay. -/
theorem Uq.path_mono {K K' : List BlkD} (h : Uq K) (h' : Uq K') (hs : Stood K) (hk : ∀ x ∈ K, x ∈ K') : ∀ b ∈ K, TrS.path K' b.name = TrS.path K b.name := by
  intro b hb
  have hg := hs.gr (L := K) (fun x hx => hx) b hb
  induction hg with
  | base h1 h2 => rw [h'.path (hk _ h1), h.path h1, h2, h.path_zero, h'.path_zero]
  | step h1 h2 h3 ih => rw [h'.path (hk _ h1), h.path h1, ← h3, ih h2.mem]
/-- A way's last one, and the way to each one on it. -/
theorem Uq.path_pre {K : List BlkD} (h : Uq K) (hs : Stood K) : ∀ b ∈ K, ∀ n ∈ TrS.path K b.name, ∃ c ∈ K, c.name = n ∧ TrS.path K n <+: TrS.path K b.name := by
  intro b hb
  have hg := hs.gr (L := K) (fun x hx => hx) b hb
  induction hg with
  | base h1 h2 =>
    intro n hn
    rw [h.path h1, h2, h.path_zero, List.nil_append, List.mem_singleton] at hn
    exact ⟨_, h1, hn.symm, by rw [hn]; exact List.prefix_refl _⟩
  | step h1 h2 h3 ih =>
    intro n hn
    rw [h.path h1, List.mem_append] at hn
    rcases hn with hn | hn
    · rw [← h3] at hn
      obtain ⟨c, g1, g2, g3⟩ := ih h2.mem n hn
      exact ⟨c, g1, g2, g3.trans (by rw [h.path h1, h3]; exact List.prefix_append _ _)⟩
    · rw [List.mem_singleton] at hn
      exact ⟨_, h1, hn.symm, by rw [hn]; exact List.prefix_refl _⟩
end TrS
end Go.Proofs.Ytdoeoncmhaihbaa
namespace Go.Proofs.Ytdoeoncmhaihbaa
set_option maxRecDepth 100000

namespace TrS
def names (K : List BlkD) : List Int := rise (K.map BlkD.name)
theorem mem_names {K : List BlkD} {n : Int} : n ∈ names K ↔ ∃ b ∈ K, b.name = n := by simp [names, mem_rise]
/-- The parents of those that wait that neither are known nor wait. -/
def missing (t : TrS) : List Int := rise ((t.wait.filter fun b => !ready t.known b && !has t.wait b.parent).map BlkD.parent)
theorem mem_missing {t : TrS} {n : Int} : n ∈ t.missing ↔ ∃ b ∈ t.wait, b.parent = n ∧ ready t.known b = false ∧ has t.wait n = false := by
  unfold missing
  rw [mem_rise]
  simp only [List.mem_map, List.mem_filter, Bool.and_eq_true, Bool.not_eq_true']
  constructor
  · rintro ⟨b, ⟨h1, h2, h3⟩, rfl⟩; exact ⟨b, h1, rfl, h2, h3⟩
  · rintro ⟨b, h1, rfl, h2, h3⟩; exact ⟨b, ⟨h1, h2, h3⟩, rfl⟩
/-- Of all known the highest, of these the least name. -/
structure IsTip (K : List BlkD) (n : Int) : Prop where
  mem : n = 0 ∧ K = [] ∨ ∃ b ∈ K, b.name = n
  top : ∀ b ∈ K, height K b.name < height K n ∨ height K b.name = height K n ∧ n ≤ b.name
theorem IsTip.uniq {K : List BlkD} {m n : Int} (h : IsTip K m) (k : IsTip K n) : m = n := by
  rcases h.mem with ⟨rfl, h1⟩ | ⟨b, hb, rfl⟩
  · rcases k.mem with ⟨rfl, _⟩ | ⟨c, hc, _⟩
    · rfl
    · rw [h1] at hc; simp at hc
  · rcases k.mem with ⟨_, k1⟩ | ⟨c, hc, rfl⟩
    · rw [k1] at hb; simp at hb
    · rcases h.top c hc with h2 | ⟨h2, h3⟩ <;> rcases k.top b hb with h4 | ⟨h4, h5⟩ <;> omega
/-- The tip, as one goes through rising names. -/
def tipF (K : List BlkD) (l : List Int) (best : Int) : Int := l.foldl (fun b x => if height K b < height K x then x else b) best
def tip (K : List BlkD) : Int := tipF K (names K) 0
theorem tipF_spec {K : List BlkD} : ∀ (l : List Int) (best : Int), Rise l → (∀ x ∈ l, best ≠ 0 → best < x) →
    (tipF K l best = best ∨ tipF K l best ∈ l) ∧ height K best ≤ height K (tipF K l best) ∧ (tipF K l best ≠ best → height K best < height K (tipF K l best)) ∧ ∀ x ∈ l, height K x < height K (tipF K l best) ∨ height K x = height K (tipF K l best) ∧ (tipF K l best ≤ x ∨ tipF K l best = best)
  | [], best, _, _ => by simp [tipF]
  | y :: l, best, hr, hb => by
    obtain ⟨r1, r2⟩ := List.pairwise_cons.1 hr
    by_cases hc : height K best < height K y
    · have e : tipF K (y :: l) best = tipF K l y := by simp [tipF, hc]
      obtain ⟨i1, i2, i3, i4⟩ := tipF_spec (K := K) l y r2 (fun x hx _ => r1 x hx)
      rw [e]
      refine ⟨.inr ?_, by omega, fun _ => by omega, fun x hx => ?_⟩
      · rcases i1 with h | h
        · rw [h]; exact List.mem_cons_self ..
        · exact List.mem_cons_of_mem _ h
      · rcases List.mem_cons.1 hx with rfl | hx
        · by_cases h5 : tipF K l x = x
          · rw [h5]; exact .inr ⟨rfl, .inl (Int.le_refl _)⟩
          · exact .inl (i3 h5)
        · rcases i4 x hx with h | ⟨h, h2 | h2⟩
          · exact .inl h
          · exact .inr ⟨h, .inl h2⟩
          · refine .inr ⟨h, .inl ?_⟩
            rw [h2]; have := r1 x hx; omega
    · have e : tipF K (y :: l) best = tipF K l best := by simp [tipF, hc]
      obtain ⟨i1, i2, i3, i4⟩ := tipF_spec (K := K) l best r2 (fun x hx h => hb x (List.mem_cons_of_mem _ hx) h)
      rw [e]
      refine ⟨i1.imp id (List.mem_cons_of_mem _), i2, i3, fun x hx => ?_⟩
      rcases List.mem_cons.1 hx with rfl | hx
      · by_cases h5 : tipF K l best = best
        · rw [h5]
          rcases Int.lt_or_eq_of_le (show height K x ≤ height K best by omega) with h | h
          · exact .inl h
          · exact .inr ⟨h, .inr rfl⟩
        · have := i3 h5; omega
      · exact i4 x hx
theorem Uq.height_pos {K : List BlkD} (h : Uq K) {b : BlkD} (hb : b ∈ K) : 0 < TrS.height K b.name := by
  unfold TrS.height
  rw [if_neg (h.right b hb).name0, h.get hb, h.path hb]
  simp
theorem height_zero (K : List BlkD) : height K 0 = 0 := if_pos rfl
theorem Uq.tip {K : List BlkD} (h : Uq K) : IsTip K (TrS.tip K) := by
  obtain ⟨i1, i2, i3, i4⟩ := tipF_spec (K := K) (names K) 0 (rise_rise _) (fun _ _ h => absurd rfl h)
  have hne : ∀ b ∈ K, tipF K (names K) 0 ≠ 0 := fun b hb he => by
    have h1 := h.height_pos hb
    rcases i4 b.name (mem_names.2 ⟨b, hb, rfl⟩) with h2 | ⟨h2, _⟩ <;> rw [he, height_zero] at h2 <;> omega
  refine ⟨?_, fun b hb => ?_⟩
  · rcases i1 with h1 | h1
    · refine .inl ⟨h1, ?_⟩
      cases K with
      | nil => rfl
      | cons b K => exact absurd h1 (hne b (List.mem_cons_self ..))
    · exact .inr (mem_names.1 h1)
  · rcases i4 b.name (mem_names.2 ⟨b, hb, rfl⟩) with h2 | ⟨h2, h3 | h3⟩
    · exact .inl h2
    · exact .inr ⟨h2, h3⟩
    · exact absurd h3 (hne b hb)
/-- What two lists begin with alike. -/
def lcp : List Int → List Int → List Int
  | a :: p, b :: q => if a = b then a :: lcp p q else []
  | _, _ => []
theorem lcp_pre : ∀ (p q : List Int), lcp p q <+: p ∧ lcp p q <+: q
  | [], _ => by simp [lcp]
  | _ :: _, [] => by simp [lcp]
  | a :: p, b :: q => by
    unfold lcp
    split
    · rename_i h; subst h
      obtain ⟨h1, h2⟩ := lcp_pre p q
      exact ⟨List.cons_prefix_cons.2 ⟨rfl, h1⟩, List.cons_prefix_cons.2 ⟨rfl, h2⟩⟩
    · exact ⟨List.nil_prefix, List.nil_prefix⟩
theorem lcp_comm : ∀ (p q : List Int), lcp p q = lcp q p
  | [], [] => rfl
  | [], _ :: _ => rfl
  | _ :: _, [] => rfl
  | a :: p, b :: q => by
    unfold lcp
    by_cases h : a = b
    · rw [if_pos h, if_pos h.symm, h, lcp_comm p q]
    · rw [if_neg h, if_neg fun e => h e.symm]
theorem lcp_self : ∀ (p : List Int), lcp p p = p
  | [] => rfl
  | a :: p => by unfold lcp; rw [if_pos rfl, lcp_self p]
/-- The next ones are unlike. -/
theorem lcp_next : ∀ (p q : List Int) (a b : Int), p[(lcp p q).length]? = some a → q[(lcp p q).length]? = some b → a ≠ b
  | [], _, a, b, h, _ => by simp at h
  | _ :: _, [], a, b, _, h => by simp at h
  | x :: p, y :: q, a, b, h1, h2 => by
    by_cases h : x = y
    · have e : lcp (x :: p) (y :: q) = x :: lcp p q := by simp [lcp, h]
      rw [e] at h1 h2
      exact lcp_next p q a b (by simpa using h1) (by simpa using h2)
    · have e : lcp (x :: p) (y :: q) = [] := by simp [lcp, h]
      rw [e] at h1 h2
      simp only [List.length_nil, List.getElem?_cons_zero, Option.some.injEq] at h1 h2
      subst h1 h2; exact h
theorem filter_lcp : ∀ (p q : List Int), p.Nodup → (∀ x ∈ p, x ∈ q → ∃ r, r ++ [x] <+: p ∧ r ++ [x] <+: q) → p.filter (fun x => decide (x ∈ q)) = lcp p q
  | [], q, _, _ => by simp [lcp]
  | a :: p, [], _, _ => by simp [lcp]
  | a :: p, b :: q, hn, h => by
    obtain ⟨hn1, hn2⟩ := List.nodup_cons.1 hn
    by_cases e : a = b
    · subst e
      have e1 : lcp (a :: p) (a :: q) = a :: lcp p q := by simp [lcp]
      rw [e1, List.filter_cons_of_pos (by simp)]
      congr 1
      have e2 : p.filter (fun x => decide (x ∈ a :: q)) = p.filter (fun x => decide (x ∈ q)) := by
        refine List.filter_congr fun x hx => ?_
        have : x ≠ a := fun e => hn1 (e ▸ hx)
        simp [this]
      rw [e2]
      refine filter_lcp p q hn2 fun x hx hq => ?_
      obtain ⟨r, g1, g2⟩ := h x (List.mem_cons_of_mem _ hx) (List.mem_cons_of_mem _ hq)
      cases r with
      | nil =>
        have := (List.cons_prefix_cons.1 g1).1
        exact absurd hx (this ▸ hn1)
      | cons c r => exact ⟨r, (List.cons_prefix_cons.1 g1).2, (List.cons_prefix_cons.1 g2).2⟩
    · have e1 : lcp (a :: p) (b :: q) = [] := by simp [lcp, e]
      rw [e1, List.filter_eq_nil_iff]
      intro x hx hq
      obtain ⟨r, g1, g2⟩ := h x hx (by simpa using hq)
      cases r with
      | nil => exact e ((List.cons_prefix_cons.1 g1).1.symm.trans (List.cons_prefix_cons.1 g2).1)
      | cons c r => exact e ((List.cons_prefix_cons.1 g1).1.symm.trans (List.cons_prefix_cons.1 g2).1)
/-- The last one that is on both ways. -/
def common (K : List BlkD) (a b : Int) : Int := ((lcp (path K a) (path K b)).getLast?).getD 0
theorem foldl_last (q : List Int) : ∀ (p : List Int) (o : Int), p.foldl (fun o x => if x ∈ q then x else o) o = ((p.filter fun x => decide (x ∈ q)).getLast?).getD o
  | [], o => rfl
  | a :: p, o => by
    rw [List.foldl_cons]
    by_cases h : a ∈ q
    · rw [if_pos h, foldl_last q p a, List.filter_cons_of_pos (by simpa using h), List.getLast?_cons]
      simp
    · rw [if_neg h, foldl_last q p o, List.filter_cons_of_neg (by simpa using h)]
theorem path_get {K : List BlkD} {n : Int} {c : Int} (hc : c ∈ TrS.path K n) : ∃ b ∈ K, b.name = n := by
  cases hg : TrS.get K n with
  | none => rw [path_none hg] at hc; simp at hc
  | some b => obtain ⟨h1, h2⟩ := get_some hg; exact ⟨b, h1, h2⟩
/-- The slots rise on a way. -/
theorem Uq.path_slots {K : List BlkD} (h : Uq K) (hs : Stood K) : ∀ b ∈ K, (TrS.path K b.name).Pairwise (fun x y => x / 65536 < y / 65536) ∧ ∀ x ∈ TrS.path K b.name, x / 65536 ≤ b.slot := by
  intro b hb
  have hg := hs.gr (L := K) (fun x hx => hx) b hb
  induction hg with
  | @base b h1 h2 =>
    rw [h.path h1, h2, h.path_zero, List.nil_append]
    refine ⟨List.pairwise_singleton .., fun x hx => ?_⟩
    rw [List.mem_singleton] at hx
    rw [hx, (h.right b h1).slot_name]; exact Int.le_refl _
  | @step b c h1 h2 h3 ih =>
    obtain ⟨i1, i2⟩ := ih h2.mem
    have h4 := h.slot_lt h1 h2.mem h3
    rw [h.path h1, ← h3]
    refine ⟨List.pairwise_append.2 ⟨i1, List.pairwise_singleton .., fun x hx y hy => ?_⟩, fun x hx => ?_⟩
    · rw [List.mem_singleton] at hy
      have := i2 x hx
      rw [hy, (h.right b h1).slot_name]; omega
    · rcases List.mem_append.1 hx with hx | hx
      · have := i2 x hx; omega
      · rw [List.mem_singleton] at hx
        rw [hx, (h.right b h1).slot_name]; exact Int.le_refl _
theorem Uq.path_nodup {K : List BlkD} (h : Uq K) (hs : Stood K) (n : Int) : (TrS.path K n).Nodup := by
  cases hg : TrS.get K n with
  | none => rw [path_none hg]; exact List.Pairwise.nil
  | some b =>
    obtain ⟨h1, rfl⟩ := get_some hg
    exact (h.path_slots hs b h1).1.imp fun h e => by rw [e] at h; omega
theorem Uq.path_end {K : List BlkD} (h : Uq K) {n : Int} {b : BlkD} (hb : b ∈ K) (hn : b.name = n) : ∃ r, TrS.path K n = r ++ [n] := ⟨TrS.path K b.parent, by rw [← hn]; exact h.path hb⟩
theorem Uq.filter_path {K : List BlkD} (h : Uq K) (hs : Stood K) (a b : Int) : (TrS.path K a).filter (fun x => decide (x ∈ TrS.path K b)) = lcp (TrS.path K a) (TrS.path K b) := by
  refine filter_lcp _ _ (h.path_nodup hs a) fun x h1 h2 => ?_
  obtain ⟨c, hc, rfl⟩ := path_get h1
  obtain ⟨d, hd, rfl⟩ := path_get h2
  obtain ⟨e, he, g1, g2⟩ := h.path_pre hs c hc x h1
  obtain ⟨_, _, _, g3⟩ := h.path_pre hs d hd x h2
  obtain ⟨r, hr⟩ := h.path_end he g1
  rw [hr] at g2 g3
  exact ⟨r, g2, g3⟩
theorem Uq.common {K : List BlkD} (h : Uq K) (hs : Stood K) (a b : Int) : (TrS.path K a).foldl (fun o x => if x ∈ TrS.path K b then x else o) 0 = TrS.common K a b := by
  rw [foldl_last, h.filter_path hs]; rfl
end TrS
end Go.Proofs.Ytdoeoncmhaihbaa
namespace Go.Proofs.Ytdoeoncmhaihbaa
set_option maxRecDepth 100000
namespace TrS

theorem drain_more : ∀ (f : Nat) (K W : List BlkD) (o : List Int), K.length ≤ 400 →
    let d := drain f K W o
    (∃ r, (d.1 ++ d.2.1 ++ r).Perm (K ++ W)) ∧ d.1.length ≤ 400 ∧ ∃ n, d.1 = K ++ n ∧ d.2.2 = o ++ n.map BlkD.name
  | 0, K, W, o, hk => ⟨⟨[], by simp [drain]⟩, hk, [], by simp [drain], by simp [drain]⟩
  | f + 1, K, W, o, hk => by
    cases hp : pick K W with
    | none =>
      simp only [drain, hp]
      exact ⟨⟨[], by simp⟩, hk, [], by simp, by simp⟩
    | some p =>
      obtain ⟨x, r⟩ := p
      obtain ⟨_, h2⟩ := pick_some hp
      simp only [drain, hp]
      split
      · rename_i hK
        obtain ⟨⟨q, g1⟩, g2, n, g3, g4⟩ := drain_more f (K ++ [x]) r (o ++ [x.name]) (by rw [List.length_append, List.length_singleton]; omega)
        refine ⟨⟨q, g1.trans ?_⟩, g2, x :: n, ?_, ?_⟩
        · rw [List.append_assoc]
          exact List.Perm.append_left K h2.symm
        · rw [g3]; simp
        · rw [g4]; simp
      · obtain ⟨⟨q, g1⟩, g2, n, g3, g4⟩ := drain_more f K r o hk
        refine ⟨⟨q ++ [x], ?_⟩, g2, n, g3, g4⟩
        rw [← List.append_assoc]
        have e1 : (drain f K r o).1 ++ (drain f K r o).2.1 ++ q ++ [x] = ((drain f K r o).1 ++ (drain f K r o).2.1 ++ q) ++ [x] := rfl
        rw [e1]
        refine (List.Perm.append_right [x] g1).trans ?_
        rw [List.append_assoc]
        refine List.Perm.append_left K ?_
        exact (List.perm_append_comm (l₁ := r) (l₂ := [x])).trans h2.symm
/-- Blocks that can be; of unlike names; each known one stands; few wait, and of these none could be known. -/
structure Good (t : TrS) : Prop where
  right : ∀ b ∈ t.known ++ t.wait, b.Right
  nodup : ((t.known ++ t.wait).map BlkD.name).Nodup
  stood : Stood t.known
  calm : ∀ x ∈ t.wait, ready t.known x = false
  few : t.wait.length ≤ 16
  room : t.known.length ≤ 400
theorem uq_of {K : List BlkD} (h : ∀ b ∈ K, b.Right) (hn : (K.map BlkD.name).Nodup) : Uq K := by
  refine ⟨h, ?_⟩
  clear h
  induction K with
  | nil => intro a ha; simp at ha
  | cons x K ih =>
    rw [List.map_cons, List.nodup_cons] at hn
    intro a ha b hb he
    rcases List.mem_cons.1 ha with e1 | h1 <;> rcases List.mem_cons.1 hb with e2 | h2
    · rw [e1, e2]
    · exact (hn.1 (List.mem_map.2 ⟨b, h2, by rw [← he, e1]⟩)).elim
    · exact (hn.1 (List.mem_map.2 ⟨a, h1, by rw [he, e2]⟩)).elim
    · exact ih hn.2 a h1 b h2 he
theorem Good.uq {t : TrS} (h : Good t) : Uq t.known := uq_of (fun b hb => h.right b (List.mem_append_left _ hb)) (by
  have := h.nodup; rw [List.map_append] at this; exact (List.nodup_append.1 this).1)
theorem Good.nil : Good ⟨[], []⟩ := ⟨by simp, by simp, .nil, by simp, by simp, by simp⟩
theorem has_false {K : List BlkD} {n : Int} : has K n = false ↔ ∀ x ∈ K, x.name ≠ n := by simp [has]
/-- What Add leaves: still good; what was known is known, and those whose names are answered, in that order; it changes nothing where it says no. -/
theorem Good.add {t : TrS} (h : Good t) {b : BlkD} (hb : b.Right ∨ b.name = 0) : let d := TrS.add t b
    Good d.1 ∧ (∃ n, d.1.known = t.known ++ n ∧ d.2.1 = n.map BlkD.name) ∧ (d.2.2 = false → d.1 = t ∧ d.2.1 = []) := by
  unfold TrS.add
  split
  · exact ⟨h, ⟨[], by simp, by simp⟩, fun _ => ⟨rfl, rfl⟩⟩
  · rename_i hc
    have hc1 : b.name ≠ 0 := fun e => hc (.inl e)
    have hc2 : has t.known b.name = false := by
      cases hh : has t.known b.name with
      | false => rfl
      | true => exact absurd (.inr (.inl hh)) hc
    have hc3 : has t.wait b.name = false := by
      cases hh : has t.wait b.name with
      | false => rfl
      | true => exact absurd (.inr (.inr hh)) hc
    have hr : b.Right := hb.resolve_right hc1
    have hnot : b.name ∉ (t.known ++ t.wait).map BlkD.name := by
      intro hm
      obtain ⟨x, hx, he⟩ := List.mem_map.1 hm
      rcases List.mem_append.1 hx with hx | hx
      · exact has_false.1 hc2 x hx he
      · exact has_false.1 hc3 x hx he
    split
    · rename_i hrd
      split
      · rename_i hlt
        obtain ⟨g1, g2, g3, g4, g5, g6, g7⟩ := drain_spec t.wait.length (t.known ++ [b]) t.wait [b.name] (Nat.le_refl _) (.snoc h.stood hrd)
        obtain ⟨⟨r, m1⟩, m2, n, m3, m4⟩ := drain_more t.wait.length (t.known ++ [b]) t.wait [b.name] (by rw [List.length_append, List.length_singleton]; omega)
        have hperm : (t.known ++ [b] ++ t.wait).Perm (b :: (t.known ++ t.wait)) := by
          rw [List.append_assoc]
          exact List.perm_middle
        refine ⟨⟨fun x hx => ?_, ?_, g1, g3, Nat.le_trans g4 h.few, m2⟩, ⟨b :: n, ?_, ?_⟩, fun e => by cases e⟩
        · have := (m1.trans hperm).mem_iff.1 (List.mem_append_left r hx)
          rcases List.mem_cons.1 this with rfl | h1
          · exact hr
          · exact h.right x h1
        · have h1 : ((b :: (t.known ++ t.wait)).map BlkD.name).Nodup := by
            rw [List.map_cons]; exact List.nodup_cons.2 ⟨hnot, h.nodup⟩
          have h2 := ((m1.trans hperm).map BlkD.name).nodup_iff.2 h1
          rw [List.map_append] at h2
          exact (List.nodup_append.1 h2).1
        · show (drain _ _ _ _).1 = _
          rw [m3]; simp
        · show (drain _ _ _ _).2.2 = _
          rw [m4]; simp
      · exact ⟨h, ⟨[], by simp, by simp⟩, fun _ => ⟨rfl, rfl⟩⟩
    · rename_i hrd
      have hrd' : ready t.known b = false := by simpa using hrd
      have hall : ∀ x ∈ t.wait ++ [b], ready t.known x = false := fun x hx => by
        rcases List.mem_append.1 hx with hx | hx
        · exact h.calm x hx
        · rw [List.mem_singleton] at hx; rw [hx]; exact hrd'
      have hright : ∀ x ∈ t.known ++ (t.wait ++ [b]), x.Right := fun x hx => by
        rw [← List.append_assoc] at hx
        rcases List.mem_append.1 hx with hx | hx
        · exact h.right x hx
        · rw [List.mem_singleton] at hx; rw [hx]; exact hr
      have hnd : ((t.known ++ (t.wait ++ [b])).map BlkD.name).Nodup := by
        rw [← List.append_assoc, List.map_append]
        refine List.nodup_append.2 ⟨h.nodup, by simp, fun x hx y hy => ?_⟩
        simp only [List.map_cons, List.map_nil, List.mem_singleton] at hy
        subst hy; exact fun e => hnot (e ▸ hx)
      refine ⟨?_, ⟨[], by simp, rfl⟩, fun e => by cases e⟩
      have hlen : (t.wait ++ [b]).length = t.wait.length + 1 := by simp
      have hfew := h.few
      split
      · have hsub : ∀ x ∈ (t.wait ++ [b]).drop 1, x ∈ t.wait ++ [b] := fun x hx => List.mem_of_mem_drop hx
        have hsl : (t.known ++ (t.wait ++ [b]).drop 1).Sublist (t.known ++ (t.wait ++ [b])) := List.Sublist.append_left (List.drop_sublist ..) _
        exact ⟨fun x hx => hright x (hsl.mem hx), (hsl.map BlkD.name).nodup hnd, h.stood, fun x hx => hall x (hsub x hx), by show ((t.wait ++ [b]).drop 1).length ≤ 16; rw [List.length_drop]; omega, h.room⟩
      · exact ⟨hright, hnd, h.stood, hall, by show (t.wait ++ [b]).length ≤ 16; omega, h.room⟩
/-- What is known: its names are rising and as many. -/
theorem Good.names_len {t : TrS} (h : Good t) : (names t.known).length = t.known.length := by
  have := h.nodup; rw [List.map_append] at this
  rw [names, rise_len (List.nodup_append.1 this).1, List.length_map]
end TrS
end Go.Proofs.Ytdoeoncmhaihbaa
namespace Go.Proofs.Ytdoeoncmhaihbaa
set_option maxRecDepth 100000
open Go.RowKit

/-- The datum of a map that holds just these. -/
structure MapF (D : DataW Value) (kn : List (Int × Value)) : Prop where
  ex : ∃ es, D = .map es ∧ es.Perm (kn.map fun p => (Lit.int .i64 p.1, DataW.held p.2))
  nd : (kn.map (·.1)).Nodup
section
variable {D : DataW Value} {kn : List (Int × Value)}
theorem MapF.has (h : MapF D kn) (j : Int) : Maps.has D (.int .i64 j) = kn.any fun p => decide (p.1 = j) := by
  obtain ⟨es, rfl, hp⟩ := h.ex
  rw [Maps.has_eq, Bool.eq_iff_iff]
  simp only [List.any_eq_true]
  constructor
  · rintro ⟨q, hq, hs⟩
    obtain ⟨p, hpk, rfl⟩ := List.mem_map.1 (hp.mem_iff.1 hq)
    exact ⟨p, hpk, by rw [← sameKey_int]; exact hs⟩
  · rintro ⟨p, hpk, hs⟩
    exact ⟨_, hp.mem_iff.2 (List.mem_map.2 ⟨p, hpk, rfl⟩), by rw [sameKey_int]; exact hs⟩
theorem nd_eq {p q : Int × Value} : ∀ {l : List (Int × Value)}, (l.map (·.1)).Nodup → p ∈ l → q ∈ l → p.1 = q.1 → p = q
  | [], _, hp, _, _ => by cases hp
  | x :: l, hn, hp, hq, he => by
    rw [List.map_cons, List.nodup_cons] at hn
    rcases List.mem_cons.1 hp with rfl | hp'
    · rcases List.mem_cons.1 hq with rfl | hq'
      · rfl
      · exact absurd (List.mem_map.2 ⟨q, hq', he.symm⟩) hn.1
    · rcases List.mem_cons.1 hq with rfl | hq'
      · exact absurd (List.mem_map.2 ⟨p, hp', he⟩) hn.1
      · exact nd_eq hn.2 hp' hq' he
theorem MapF.hit (h : MapF D kn) {j : Int} {v : Value} (hp : (j, v) ∈ kn) (z : DataW Value) : D.atKey (.int .i64 j) z = .held v := by
  obtain ⟨es, rfl, hpm⟩ := h.ex
  rw [atKey_find]
  cases hf : es.find? (fun p => p.1.sameKey (.int .i64 j)) with
  | none =>
    have := List.find?_eq_none.1 hf _ (hpm.mem_iff.2 (List.mem_map.2 ⟨_, hp, rfl⟩))
    simp [sameKey_int] at this
  | some q =>
    have h1 := List.mem_of_find?_eq_some hf
    have h2 := List.find?_some hf
    obtain ⟨p, hpk, rfl⟩ := List.mem_map.1 (hpm.mem_iff.1 h1)
    have h3 : p.1 = j := by simpa [sameKey_int] using h2
    have := nd_eq h.nd hpk hp h3
    subst this; rfl
theorem MapF.miss (h : MapF D kn) {j : Int} (hp : ∀ p ∈ kn, p.1 ≠ j) (z : DataW Value) : D.atKey (.int .i64 j) z = z := by
  obtain ⟨es, rfl, hpm⟩ := h.ex
  rw [atKey_find, List.find?_eq_none.2]
  · rfl
  intro q hq
  obtain ⟨p, hpk, rfl⟩ := List.mem_map.1 (hpm.mem_iff.1 hq)
  simpa [sameKey_int] using hp p hpk
theorem MapF.size (h : MapF D kn) : Maps.size D = kn.length := by
  obtain ⟨es, rfl, hpm⟩ := h.ex
  rw [Maps.size_eq, hpm.length_eq, List.length_map]
theorem MapF.put (h : MapF D kn) {j : Int} {v : Value} (hn : ∀ p ∈ kn, p.1 ≠ j) : MapF (D.put (.int .i64 j) (.held v)) (kn ++ [(j, v)]) := by
  obtain ⟨es, rfl, hpm⟩ := h.ex
  refine ⟨⟨_, rfl, ?_⟩, ?_⟩
  · have hfl : es.filter (fun p => !p.1.sameKey (.int .i64 j)) = es := List.filter_eq_self.2 fun q hq => by
      obtain ⟨p, hpk, rfl⟩ := List.mem_map.1 (hpm.mem_iff.1 hq)
      simpa [sameKey_int] using hn p hpk
    rw [hfl, List.map_append]
    exact ((WideShapes.insert_perm _ _).trans (hpm.cons _)).trans (List.perm_append_comm (l₁ := [_]))
  · rw [List.map_append, List.nodup_append]
    refine ⟨h.nd, by simp, ?_⟩
    intro a ha b hb
    obtain ⟨p, hpk, rfl⟩ := List.mem_map.1 ha
    simp at hb; subst hb
    exact hn p hpk
theorem MapF.keys (h : MapF D kn) : (intKeys D).Perm (kn.map (·.1)) := by
  obtain ⟨es, rfl, hpm⟩ := h.ex
  have := hpm.map (fun p : Go.Lit × DataW Value => Go.intOf p.1)
  rw [List.map_map] at this
  exact this
theorem MapF.nil : MapF (.map []) [] := ⟨⟨[], rfl, List.Perm.refl _⟩, by simp⟩
end
theorem SlS.mod {F : Nat → Prop} {w w' : World} {v : Value} {n : Nat} {rows : List (List Value)} (h : SlS w v n rows) (hm : Mod F w w') (hn : ∀ k, v.ownBlock = some k → ¬ F k) : SlS w' v n rows := by
  obtain ⟨A, c, rfl, h2, h3, h4⟩ := h
  refine ⟨A, c, rfl, h2, h3, fun k row hk => ?_⟩
  obtain ⟨h5, ad, rfl, h7⟩ := h4 k row hk
  exact ⟨h5, ad, rfl, h7.mod hm (by rw [blk_add]; exact hn ad.block rfl)⟩
theorem recsT_mod {F : Nat → Prop} {w w' : World} {v : Value} {l : List TxD} (h : Recs 2 TxR w v l) (hm : Mod F w w') (hn : ∀ k, v.ownBlock = some k → ¬ F k) : Recs 2 TxR w' v l := by
  obtain ⟨rows, h1, h2, h3⟩ := h
  exact ⟨rows, h1.mod hm hn, h2, fun k row d hk hd => h3 k row d hk hd⟩
/-- Transactions in a block of memory that is one of X. -/
def TxX (X : Nat → Prop) (w : World) (u : Value) (d : BlkD) : Prop := Recs 2 TxR w u d.txs ∧ d.Raw ∧ ∀ k, u.ownBlock = some k → X k ∧ k < w.heap.size
section
variable {X Y F : Nat → Prop} {w w' : World} {u : Value} {d : BlkD}
theorem TxX.ext (h : TxX X w u d) (he : Ext w w') : TxX X w' u d := ⟨h.1.ext TxR.stays he, h.2.1, fun k hk => ⟨(h.2.2 k hk).1, Nat.lt_of_lt_of_le (h.2.2 k hk).2 he.size⟩⟩
theorem TxX.mod (h : TxX X w u d) (hm : Mod F w w') (hn : ∀ k, X k → ¬ F k) : TxX X w' u d := ⟨recsT_mod h.1 hm fun k hk => hn k (h.2.2 k hk).1, h.2.1, fun k hk => ⟨(h.2.2 k hk).1, Nat.lt_of_lt_of_le (h.2.2 k hk).2 hm.size⟩⟩
theorem TxX.mono (h : TxX X w u d) (hn : ∀ k, X k → Y k) : TxX Y w u d := ⟨h.1, h.2.1, fun k hk => ⟨hn k (h.2.2 k hk).1, (h.2.2 k hk).2⟩⟩
end
/-- The cells of a block. -/
def bRow (d : BlkD) (u : Value) : List Value := [.int .i64 d.slot, .int .i64 d.miner, .int .i64 d.var, .int .i64 d.parent, u]
/-- A known block, as the map has it. -/
def kVal (d : BlkD) (u : Value) (h : Int) : Value := .agg #[.int .i64 d.slot, .int .i64 d.miner, .int .i64 d.var, .int .i64 d.parent, u, .int .i64 h]
def kZero : Value := .agg #[.int .i64 0, .int .i64 0, .int .i64 0, .int .i64 0, .slice none 0 0, .int .i64 0]
/-- Blocks that are known and that wait: what holds of them on the way, too. -/
structure Fit8 (K V : List BlkD) : Prop where
  right : ∀ b ∈ K ++ V, b.Right
  nodup : ((K ++ V).map BlkD.name).Nodup
  stood : TrS.Stood K
  few : V.length ≤ 17
  room : K.length ≤ 400
theorem Fit8.uq {K V : List BlkD} (h : Fit8 K V) : TrS.Uq K := TrS.uq_of (fun b hb => h.right b (List.mem_append_left _ hb)) (by
  have := h.nodup
  rw [List.map_append, List.nodup_append] at this
  exact this.1)
/-- The tree at p: its map at g, its queue v; the transactions in blocks of X. -/
structure TrC (X : Nat → Prop) (w : World) (p g : Nat) (v : Value) (K V : List BlkD) : Prop where
  obj : Fs w p [.map (some g), v]
  map : ∃ (n : Nat) (D : DataW Value) (us : List Value), n ≤ 400 ∧ w.ownsMap Try.prog 3 tok g n D ∧ us.length = K.length ∧ MapF D ((K.zip us).map fun x => (x.1.name, kVal x.1 x.2 (TrS.height K x.1.name))) ∧ ∀ x ∈ K.zip us, TxX X w x.2 x.1
  que : ∃ us : List Value, us.length = V.length ∧ RowN (fun k => v.ownBlock = some k) w 59 5 v ((V.zip us).map fun x => bRow x.1 x.2) ∧ ∀ x ∈ V.zip us, TxX X w x.2 x.1
  sep : p ≠ g ∧ ¬ X p ∧ ¬ X g ∧ ∀ k, v.ownBlock = some k → ¬ X k ∧ k ≠ p ∧ k ≠ g
  fit : Fit8 K V
section
variable {X F : Nat → Prop} {w w' : World} {p g : Nat} {v : Value} {K V : List BlkD}
theorem TrC.mod (h : TrC X w p g v K V) (hm : Mod F w w') (hX : ∀ k, X k → ¬ F k) (hp : ¬ F p) (hg : ¬ F g) (hv : ∀ k, v.ownBlock = some k → ¬ F k) : TrC X w' p g v K V := by
  obtain ⟨n, D, us, h1, h2, h3, h4, h5⟩ := h.map
  obtain ⟨vs, k1, k2, k3⟩ := h.que
  exact ⟨h.obj.mod hm hp, ⟨n, D, us, h1, ownsMap_mod h2 hm hg, h3, h4, fun x hx => (h5 x hx).mod hm hX⟩, ⟨vs, k1, k2.mod hm (fun k hk => hv k hk), fun x hx => (k3 x hx).mod hm hX⟩, h.sep, h.fit⟩
theorem TrC.ext (h : TrC X w p g v K V) (he : Ext w w') : TrC X w' p g v K V := h.mod (he.mod fun _ => False) (fun _ _ => id) id id fun _ _ => id
end
/-- The tree at p, all of whose blocks are in G. -/
def TrW (G : Nat → Prop) (w : World) (p : Nat) (K V : List BlkD) : Prop := ∃ (X : Nat → Prop) (g : Nat) (v : Value), TrC X w p g v K V ∧ (∀ k, X k → G k ∧ k < w.heap.size) ∧ G p ∧ G g ∧ ∀ k, v.ownBlock = some k → G k
section
variable {G F : Nat → Prop} {w w' : World} {p g : Nat} {v : Value} {K V : List BlkD}
theorem TrW.mod (h : TrW G w p K V) (hm : Mod F w w') (hG : ∀ k, G k → ¬ F k) : TrW G w' p K V := by
  obtain ⟨X, g, v, h1, h2, h3, h4, h5⟩ := h
  exact ⟨X, g, v, h1.mod hm (fun k hk => hG k (h2 k hk).1) (hG p h3) (hG g h4) (fun k hk => hG k (h5 k hk)), fun k hk => ⟨(h2 k hk).1, Nat.lt_of_lt_of_le (h2 k hk).2 hm.size⟩, h3, h4, h5⟩
theorem TrW.ext (h : TrW G w p K V) (he : Ext w w') : TrW G w' p K V := h.mod (he.mod fun _ => False) fun _ _ => id
theorem TrW.fit (h : TrW G w p K V) : Fit8 K V := by obtain ⟨X, g, v, h1, _⟩ := h; exact h1.fit
end
/-- m[n], and whether it is there. -/
def Look (w : World) (g : Nat) (n : Int) (val : Value) (ok : Bool) : Prop := ∃ (m : Nat) (D : DataW Value), w.ownsMap Try.prog 3 tok g m D ∧ D.atKey (.int .i64 n) (.held kZero) = .held val ∧ Maps.has D (.int .i64 n) = ok
theorem Look.mod {F : Nat → Prop} {w w' : World} {g : Nat} {n : Int} {val : Value} {ok : Bool} (h : Look w g n val ok) (hm : Mod F w w') (hg : ¬ F g) : Look w' g n val ok := by
  obtain ⟨m, D, h1, h2, h3⟩ := h
  exact ⟨m, D, ownsMap_mod h1 hm hg, h2, h3⟩
theorem Look.ext {w w' : World} {g : Nat} {n : Int} {val : Value} {ok : Bool} (h : Look w g n val ok) (he : Ext w w') : Look w' g n val ok := h.mod (he.mod fun _ => False) id
theorem mem_zip_of {α β : Type} : ∀ {l : List α} {us : List β} {a : α}, us.length = l.length → a ∈ l → ∃ u, (a, u) ∈ l.zip us
  | [], _, _, _, h => by cases h
  | x :: l, [], _, he, _ => by simp at he
  | x :: l, u :: us, a, he, h => by
    rcases List.mem_cons.1 h with rfl | h
    · exact ⟨u, List.mem_cons_self ..⟩
    · obtain ⟨u', hu⟩ := mem_zip_of (us := us) (by simpa using he) h
      exact ⟨u', List.mem_cons_of_mem _ hu⟩
section
variable {X : Nat → Prop} {w : World} {p g : Nat} {v : Value} {K V : List BlkD}
theorem TrC.hit (h : TrC X w p g v K V) {n : Int} {d : BlkD} (hg : TrS.get K n = some d) : ∃ u, Look w g n (kVal d u (TrS.height K n)) true ∧ TxX X w u d := by
  obtain ⟨m, D, us, h1, h2, h3, h4, h5⟩ := h.map
  obtain ⟨hd, hn⟩ := TrS.get_some hg
  obtain ⟨u, hu⟩ := mem_zip_of h3 hd
  have hmem : (n, kVal d u (TrS.height K n)) ∈ (K.zip us).map fun x => (x.1.name, kVal x.1 x.2 (TrS.height K x.1.name)) := List.mem_map.2 ⟨_, hu, by rw [hn]⟩
  refine ⟨u, ⟨m, D, h2, h4.hit hmem _, ?_⟩, h5 _ hu⟩
  rw [h4.has, List.any_eq_true]
  exact ⟨_, hmem, by simp⟩
theorem TrC.miss (h : TrC X w p g v K V) {n : Int} (hg : TrS.get K n = none) : Look w g n kZero false := by
  obtain ⟨m, D, us, h1, h2, h3, h4, h5⟩ := h.map
  have hno : ∀ q ∈ (K.zip us).map (fun x => (x.1.name, kVal x.1 x.2 (TrS.height K x.1.name))), q.1 ≠ n := fun q hq => by
    obtain ⟨x, hx, rfl⟩ := List.mem_map.1 hq
    exact TrS.get_none hg _ (List.of_mem_zip hx).1
  refine ⟨m, D, h2, h4.miss hno _, ?_⟩
  rw [h4.has, Bool.eq_false_iff]
  intro ha
  obtain ⟨q, hq, hc⟩ := List.any_eq_true.1 ha
  exact hno q hq (of_decide_eq_true hc)
end
theorem get_has {K : List BlkD} {n : Int} : (TrS.get K n).isSome = TrS.has K n := by
  rw [Bool.eq_iff_iff, TrS.has_iff, TrS.get, List.find?_isSome]; simp
theorem Try.stTree : St Try.prog 78 2 [.map none, .slice none 0 0] := St.of (by kernel_rfl) (by kernel_rfl) rfl
theorem Try.stQue : St Try.prog 76 1 [.slice none 0 0] := St.of (by kernel_rfl) (by kernel_rfl) rfl
theorem Try.stKn : StN Try.prog 83 6 [.int .i64 0, .int .i64 0, .int .i64 0, .int .i64 0, .slice none 0 0, .int .i64 0] := StN.of (by kernel_rfl) (by kernel_rfl) rfl
theorem zeroKn (w : World) : (zeroValue 83).run Try.prog w = .ok kZero w := by
  obtain ⟨i, h1, h2, h3⟩ := Try.stKn.info
  simp [zeroValue, typeInfo, h1, h2, kZero]
section
variable {ops : Array Oper} {rest : List Oper} {o : Oper} {a : Act} {Q : Exit → Act → World → Prop} {w : World}
/-- v, ok := m[n] -/
theorem w_mlook (x y : Operand) {g : Nat} {n : Int} {val : Value} {ok : Bool} (hgd : o.guard = none) (ho : o.op = Op.lookup 74 x y true) (hx : a.eval x = .map (some g)) (hy : a.eval y = .int .i64 n) (h : Look w g n val ok) (hn : -9223372036854775808 ≤ n ∧ n ≤ 9223372036854775807)
    (k : wpList Try.prog ops Q rest (a.put o.dst (.tuple #[val, .bool ok])) w) : wpList Try.prog ops Q (o :: rest) a w := by
  obtain ⟨m, D, h1, h2, rfl⟩ := h
  have hwf : (Lit.int .i64 n).wf = true := by simp [Lit.wf, IntKind.min, IntKind.max, IntKind.signed, IntKind.bits]; omega
  refine wpList_lookup_own_ok w hgd x y _ ho 3 83 (Maps.int_keyed Try.underlying3) Try.underlying74 tok (zeroKn w) (.held kZero) [] rfl g m D hx h1 _ _ hy (Maps.keyOf_int_mk Try.underlying3 hwf) ?_
  intro v ps hv
  rw [h2] at hv
  obtain ⟨rfl, _⟩ : v = val ∧ ps = [] := by simpa [tok] using hv
  exact k
/-- &p.f, p the address of a struct somewhere in a block. -/
theorem w_fieldO {P : Program} {t : TypeId} {n : Nat} {zs : List Value} (E : St P t n zs) (x : Operand) (g j i : Nat) (hgd : o.guard = none) (ho : o.op = .fieldAddr t x i) (hx : a.eval x = .pointer (some ⟨g, j, none⟩)) (hi : i < n)
    (k : wpList P ops Q rest (a.put o.dst (.pointer (some ⟨g, j + i, none⟩))) w) : wpList P ops Q (o :: rest) a w :=
  w_pfield E x i hgd ho hx hi (by rw [addr_add_off]; exact k)
/-- len(m) -/
theorem w_mlen (x : Operand) {g m : Nat} {D : DataW Value} {r : Nat} (hgd : o.guard = none) (ho : o.op = .call { callee := .builtin .len, args := #[x], argTypes := #[74] }) (hx : a.eval x = .map (some g)) (h : w.ownsMap Try.prog 3 tok g m D) (hr : Maps.size D = r)
    (k : wpList Try.prog ops Q rest (a.put o.dst (.int .i64 (r : Nat))) w) : wpList Try.prog ops Q (o :: rest) a w := by
  subst hr
  refine wpList_runs hgd ?_ k
  unfold Runs execOp
  simp [ho, resolve, invoke, builtin, hx, h.len Try.underlying74 o.type]
end
end Go.Proofs.Ytdoeoncmhaihbaa
namespace Go.Proofs.Ytdoeoncmhaihbaa
set_option maxRecDepth 100000
open Go.RowKit

theorem TrC.look {X : Nat → Prop} {w : World} {p g : Nat} {v : Value} {K V : List BlkD} (h : TrC X w p g v K V) (n : Int) :
    ∃ cs : List Value, cs.length = 6 ∧ (∀ u ∈ cs, u.oneCell' = true) ∧ Look w g n (.agg cs.toArray) (TrS.has K n) ∧
      ((TrS.get K n = none ∧ cs = [.int .i64 0, .int .i64 0, .int .i64 0, .int .i64 0, .slice none 0 0, .int .i64 0]) ∨ ∃ d u, TrS.get K n = some d ∧ TxX X w u d ∧ cs = bRow d u ++ [.int .i64 (TrS.height K n)]) := by
  cases hg : TrS.get K n with
  | none =>
    have hh : TrS.has K n = false := by rw [← get_has, hg]; rfl
    exact ⟨_, rfl, by simp; exact ⟨rfl, rfl, rfl⟩, by rw [hh]; exact h.miss hg, .inl ⟨rfl, rfl⟩⟩
  | some d =>
    obtain ⟨u, h1, h2⟩ := h.hit hg
    have hh : TrS.has K n = true := by rw [← get_has, hg]; rfl
    have h1c : u.oneCell' = true := h2.1.one'
    exact ⟨_, rfl, by simp [bRow]; exact ⟨rfl, rfl, rfl, rfl, h1c, rfl⟩, by rw [hh]; exact h1, .inr ⟨d, u, rfl, h2, rfl⟩⟩

set_option maxRecDepth 100000 in
set_option maxHeartbeats 1600000 in
theorem Has_any {G : Nat → Prop} {w : World} {p : Nat} {K V : List BlkD} {n : Int} (h0 : TrW G w p K V) (hn : I64 n) :
    Calls Try.prog 30 #[.pointer (some ⟨p, 0, none⟩), .int .i64 n] w fun e w' => e = .returned (.bool (TrS.has K n)) ∧ Ext w w' := by
  refine calls_keep ?_
  obtain ⟨X, g, v, h1, _⟩ := h0
  have f1 := h1.obj
  have hn' := hide_ hn
  obtain ⟨cs, hlen, hone, hl, _⟩ := h1.look n
  replace hl := hide_ hl
  obtain ⟨q, hq⟩ : ∃ q, TrS.has K n = q := ⟨_, rfl⟩
  rw [hq] at hl ⊢
  have hX := Ext.refl w
  clear h1 hq
  go_enter Try.func30, Try.ntmps30
  go_wp2_with ((first
    | (refine w_mlook _ _ rfl rfl rfl rfl hl.out hn'.out ?_)
    | ((with_reducible refine at_alloc ?_); refine w_allocN Try.stKn rfl rfl ?_; intro g2 w2 hg2 hx2 f2)
    | ((with_reducible refine at_store ?_); refine w_astoreN Try.stKn _ _ rfl rfl rfl rfl rfl f2 rfl hlen hone ?_; intro w3 hm3 f3; replace f2 : Fs w3 g2 cs := f3; replace hX := hX.trans (hm3.after hx2 (fun i hi => by subst hi; exact hg2)); clear hx2 hm3 f3)
    | ((with_reducible refine at_field ?_); (try refine w_yes _ _ _ rfl rfl rfl ?_); refine w_field Try.stTree _ _ _ rfl rfl rfl (by omega) ?_)
    | ((with_reducible refine at_load ?_); (try refine w_yes _ _ _ rfl rfl rfl ?_); refine w_fload _ rfl rfl rfl f1 rfl (agg_of (by kernel_rfl)) ?_)
    | fail) <;> (try simp only [Act.put, List.setIfInBounds_toArray, List.set_cons_zero, List.set_cons_succ]))
  go_ret
  exact Keep.intro ⟨rfl, hX⟩

set_option maxRecDepth 100000 in
set_option maxHeartbeats 1600000 in
theorem full_any {G : Nat → Prop} {w : World} {p : Nat} {K V : List BlkD} (h0 : TrW G w p K V) :
    Calls Try.prog 55 #[.pointer (some ⟨p, 0, none⟩)] w fun e w' => e = .returned (.bool (decide (400 ≤ K.length))) ∧ Ext w w' := by
  refine calls_keep ?_
  obtain ⟨X, g, v, h1, _⟩ := h0
  have f1 := h1.obj
  obtain ⟨n, D, us, h2, h3, h4, h5, _⟩ := h1.map
  have hs : Maps.size D = K.length := by rw [h5.size]; simp [h4]
  replace h3 := hide_ h3
  replace hs := hide_ hs
  obtain ⟨q, hq⟩ : ∃ q, decide (400 ≤ K.length) = q := ⟨_, rfl⟩
  have t1 : decide ((400 : Int) ≤ (K.length : Int)) = q := by rw [← hq]; exact decide_eq_decide.2 (by omega)
  rw [hq]
  have hX := Ext.refl w
  clear h1 hq h5
  go_enter Try.func55, Try.ntmps55
  go_wp2_with ((first
    | (refine w_mlen _ rfl rfl rfl h3.out hs.out ?_)
    | ((with_reducible refine at_field ?_); (try refine w_yes _ _ _ rfl rfl rfl ?_); refine w_field Try.stTree _ _ _ rfl rfl rfl (by omega) ?_)
    | ((with_reducible refine at_load ?_); (try refine w_yes _ _ _ rfl rfl rfl ?_); refine w_fload _ rfl rfl rfl f1 rfl (agg_of (by kernel_rfl)) ?_)
    | fail) <;> (try simp only [Act.put, List.setIfInBounds_toArray, List.set_cons_zero, List.set_cons_succ]))
  go_ret
  exact Keep.intro ⟨rfl, hX⟩

set_option maxRecDepth 100000 in
set_option maxHeartbeats 1600000 in
theorem Height_any {G : Nat → Prop} {w : World} {p : Nat} {K V : List BlkD} {n : Int} (h0 : TrW G w p K V) (hn : I64 n) :
    Calls Try.prog 70 #[.pointer (some ⟨p, 0, none⟩), .int .i64 n] w fun e w' => e = .returned (.int .i64 (TrS.height K n)) ∧ Ext w w' := by
  refine calls_keep ?_
  obtain ⟨X, g, v, h1, _⟩ := h0
  have f1 := h1.obj
  have hn' := hide_ hn
  cases hc : (n == 0)
  · obtain ⟨cs, hlen, hone, hl, hcs⟩ := h1.look n
    obtain ⟨r, hr⟩ : ∃ r, TrS.height K n = r := ⟨_, rfl⟩
    have hX := Ext.refl w
    rcases hcs with ⟨hg, hcs⟩ | ⟨d, u, hg, _, hcs⟩
    · have hh : TrS.has K n = false := by rw [← get_has, hg]; rfl
      have h5 := hide_ (show TrS.height K n = -1 from by have : n ≠ 0 := by simpa using hc
                                                         rw [TrS.height, if_neg this, hg]; rfl)
      rw [hh] at hl
      replace hl := hide_ hl
      clear h1 hg hcs hr hh
      go_enter Try.func70, Try.ntmps70
      go_wp2_with ((first
        | (refine w_mlook _ _ rfl rfl rfl rfl hl.out hn'.out ?_)
        | ((with_reducible refine at_alloc ?_); refine w_allocN Try.stKn rfl rfl ?_; intro g2 w2 hg2 hx2 f2)
        | ((with_reducible refine at_store ?_); refine w_astoreN Try.stKn _ _ rfl rfl rfl rfl rfl f2 rfl hlen hone ?_; intro w3 hm3 f3; replace f2 : Fs w3 g2 cs := f3; replace hX := hX.trans (hm3.after hx2 (fun i hi => by subst hi; exact hg2)); clear hx2 hm3 f3)
        | ((with_reducible refine at_field ?_); (try refine w_yes _ _ _ rfl rfl rfl ?_); refine w_field Try.stTree _ _ _ rfl rfl rfl (by omega) ?_)
        | ((with_reducible refine at_load ?_); (try refine w_yes _ _ _ rfl rfl rfl ?_); refine w_fload _ rfl rfl rfl f1 rfl (agg_of (by kernel_rfl)) ?_)
        | fail) <;> (try simp only [Act.put, List.setIfInBounds_toArray, List.set_cons_zero, List.set_cons_succ]))
      go_ret
      exact Keep.intro ⟨by rw [h5.out]; rfl, hX⟩
    · have hh : TrS.has K n = true := by rw [← get_has, hg]; rfl
      rw [hh] at hl
      rw [hr] at hcs ⊢
      have hcs5 : cs[5]? = some (.int .i64 r) := by rw [hcs]; rfl
      replace hl := hide_ hl
      clear h1 hg hcs hr hh
      go_enter Try.func70, Try.ntmps70
      go_wp2_with ((first
        | (refine w_mlook _ _ rfl rfl rfl rfl hl.out hn'.out ?_)
        | ((with_reducible refine at_alloc ?_); refine w_allocN Try.stKn rfl rfl ?_; intro g2 w2 hg2 hx2 f2)
        | ((with_reducible refine at_store ?_); refine w_astoreN Try.stKn _ _ rfl rfl rfl rfl rfl f2 rfl hlen hone ?_; intro w3 hm3 f3; replace f2 : Fs w3 g2 cs := f3; replace hX := hX.trans (hm3.after hx2 (fun i hi => by subst hi; exact hg2)); clear hx2 hm3 f3)
        | ((with_reducible refine at_field ?_); (try refine w_yes _ _ _ rfl rfl rfl ?_); refine w_field Try.stTree _ _ _ rfl rfl rfl (by omega) ?_)
        | ((with_reducible refine at_field ?_); refine w_fieldN (i := 1) (off := 5) (by kernel_rfl) _ _ rfl rfl rfl ?_)
        | ((with_reducible refine at_load ?_); refine w_fload _ rfl rfl rfl f2 hcs5 (agg_of (by kernel_rfl)) ?_)
        | ((with_reducible refine at_load ?_); (try refine w_yes _ _ _ rfl rfl rfl ?_); refine w_fload _ rfl rfl rfl f1 rfl (agg_of (by kernel_rfl)) ?_)
        | fail) <;> (try simp only [Act.put, List.setIfInBounds_toArray, List.set_cons_zero, List.set_cons_succ]))
      go_ret
      exact Keep.intro ⟨rfl, hX⟩
  · obtain rfl : n = 0 := by simpa using hc
    have h5 := hide_ (TrS.height_zero K)
    clear hc h1
    go_enter Try.func70, Try.ntmps70
    go_wp2
    go_ret
    exact Keep.intro ⟨by rw [h5.out]; rfl, Ext.refl w⟩

def QR (X : Nat → Prop) (w : World) (row : List Value) (d : BlkD) : Prop := ∃ u, row = bRow d u ∧ TxX X w u d
theorem QR.stays (X : Nat → Prop) : Stays (QR X) := fun _ _ _ _ ⟨u, h1, h2⟩ he => ⟨u, h1, h2.ext he⟩
theorem zip_rows {α β γ : Type} (f : α → β → γ) : ∀ {l : List α} {us : List β} {k : Nat} {row : γ} {d : α}, us.length = l.length → ((l.zip us).map fun x => f x.1 x.2)[k]? = some row → l[k]? = some d → ∃ u, (d, u) ∈ l.zip us ∧ row = f d u
  | [], _, k, row, d, _, _, h => by simp at h
  | x :: l, [], _, _, _, he, _, _ => by simp at he
  | x :: l, u :: us, 0, row, d, _, h1, h2 => by
    simp at h1 h2; subst h1 h2
    exact ⟨u, List.mem_cons_self .., rfl⟩
  | x :: l, u :: us, k + 1, row, d, he, h1, h2 => by
    obtain ⟨u', h3, h4⟩ := zip_rows f (l := l) (us := us) (k := k) (by simpa using he) (by simpa using h1) (by simpa using h2)
    exact ⟨u', List.mem_cons_of_mem _ h3, h4⟩
theorem TrC.recs {X : Nat → Prop} {w : World} {p g : Nat} {v : Value} {K V : List BlkD} (h : TrC X w p g v K V) : Recs 5 (QR X) w v V := by
  obtain ⟨us, h1, h2, h3⟩ := h.que
  refine h2.recs (by simp [h1]) fun k row d hk hd => ?_
  obtain ⟨u, hu, hr⟩ := zip_rows (fun d u => bRow d u) h1 hk hd
  exact ⟨u, hr, h3 _ hu⟩
theorem w_qidx {P : Program} {ops : Array Oper} {rest : List Oper} {o : Oper} {a : Act} {Q : Exit → Act → World → Prop} {w W0 : World} {t e : TypeId} {X : Nat → Prop} {v : Value} {l : List BlkD} (E : ElS P t e 5) (x y : Operand) (i : Nat) (hgd : o.guard = none) (ho : o.op = .indexAddr t x y) (hv : a.eval x = v) (hy : a.eval y = .int .i64 i)
    (h : Recs 5 (QR X) W0 v l) (he : Ext W0 w) {d : BlkD} (hd : l[i]? = some d) (k : ∀ p u, RowAt w p (bRow d u) → TxX X w u d → wpList P ops Q rest (a.put o.dst (.pointer (some p))) w) : wpList P ops Q (o :: rest) a w := by
  have hi := (List.getElem?_eq_some_iff.1 hd).1
  have e : l[i] = d := (List.getElem?_eq_some_iff.1 hd).2
  refine w_ridx0 E x y i (QR.stays X) hgd ho hv hy h he hi ?_
  rintro pa row hrow _ ⟨u, rfl, htx⟩
  rw [e] at hrow htx
  exact k pa u (hrow.ext he) (htx.ext he)
theorem Try.enBlk : ElN Try.prog 33 59 5 56 (.agg #[.int .i64 0, .int .i64 0, .int .i64 0, .int .i64 0, .slice none 0 0]) := ElN.of (by kernel_rfl) (by kernel_rfl) rfl (by omega) (by omega)
theorem BlkD.Raw.par {d : BlkD} (h : d.Raw) : I64 d.parent := h.parent

set_option maxRecDepth 100000 in
set_option maxHeartbeats 3200000 in
theorem Waiting_any {G : Nat → Prop} {w : World} {p : Nat} {K V : List BlkD} (h0 : TrW G w p K V) :
    Calls Try.prog 68 #[.pointer (some ⟨p, 0, none⟩)] w fun e w' => ∃ v', e = .returned v' ∧ OwnI w.heap.size w' v' (V.map BlkD.name) ∧ Ext w w' := by
  refine calls_keep ?_
  obtain ⟨X, g, v, h1, _⟩ := h0
  have f1 := h1.obj
  have hr := hide_ h1.recs
  have hfew := h1.fit.few
  have hX := Ext.refl w
  clear h1
  go_enter Try.func68, Try.ntmps68
  go_wp2_with ((first
    | ((with_reducible refine at_bi ?_); refine w_rlen Try.enBlk.elS _ rfl rfl rfl hr.out ?_)
    | ((with_reducible refine at_field ?_); (try refine w_yes _ _ _ rfl rfl rfl ?_); refine w_field Try.stTree _ _ _ rfl rfl rfl (by omega) ?_)
    | ((try refine w_yes _ _ _ rfl rfl rfl ?_); refine w_fieldO Try.stQue _ _ _ _ rfl rfl rfl (by omega) ?_)
    | ((with_reducible refine at_load ?_); (try refine w_yes _ _ _ rfl rfl rfl ?_); refine w_fload _ rfl rfl rfl f1 rfl (agg_of (by kernel_rfl)) ?_)
    | fail) <;> (try simp only [Act.put, List.setIfInBounds_toArray, List.set_cons_zero, List.set_cons_succ]))
  go_loopw [3, 12] (fun u3 i wr => ∃ k : Nat, i = .int .i64 k ∧ k ≤ V.length ∧ OwnI w.heap.size wr u3 ((V.take k).map BlkD.name) ∧ Ext w wr) (fun _ i _ => V.length - (RowKit.intOf i).toNat)
  case atStart => exact ⟨0, rfl, Nat.zero_le _, OwnI.nil _ _, Ext.refl _⟩
  case round =>
    obtain ⟨k, rfl, hk, ho, hX⟩ := hrel
    by_cases hge : V.length ≤ k
    · obtain rfl : k = V.length := by omega
      have t2 : decide (V.length < V.length) = false := by simp
      rw [List.take_length] at ho
      replace ho := hide_ ho
      go_wp2
      go_ret
      exact Keep.intro ⟨_, rfl, ho.out, hX⟩
    have hlt : k < V.length := by omega
    have t2 : decide (k < V.length) = true := by simpa using hlt
    obtain ⟨d, hd0⟩ : ∃ d, V[k]? = some d := ⟨_, List.getElem?_eq_getElem hlt⟩
    have hlt' := hide_ hlt
    have hd := hide_ hd0
    have he := hide_ (show (V.take k).map BlkD.name ++ [d.name] = (V.take (k + 1)).map BlkD.name from by rw [List.take_add_one, hd0, List.map_append]; rfl)
    have hbig := hide_ (show (((V.take k).map BlkD.name).length + [d.name].length) * 8 ≤ 140737488355328 from by simp; omega)
    clear hge hlt hd0
    go_wp2_with ((first
      | (go_at_call 51; refine (BName_any (b := d) hu.out hpar.out).mono ?_; rintro e w4 ⟨rfl, hx⟩; replace ho := own_ext ho hx; replace hX := hX.trans hx; clear hx f2)
      | (refine w_qidx Try.enBlk.elS _ _ k rfl rfl rfl rfl hr.out hX hd.out ?_; intro pa u hrow htx; have hpar := hide_ htx.2.1.par; have hu := hide_ htx.1; have hone := blk_one (a := d.slot) (b := d.miner) (c := d.var) (d := d.parent) htx.1.one'; replace hrow := hide_ hrow; clear htx)
      | ((with_reducible refine at_load ?_); refine w_pload Try.stBlk _ rfl rfl rfl hrow.out rfl ?_)
      | ((with_reducible refine at_alloc ?_); refine w_alloc Try.stBlk rfl rfl ?_; intro g2 w2 hg2 hx2 f2)
      | ((with_reducible refine at_store ?_); refine w_astore Try.stBlk _ _ (us := bRow d u) rfl rfl rfl rfl rfl f2 rfl rfl hone ?_; intro w3 hm3 f3; replace f2 : Fs w3 g2 (bRow d u) := f3; replace hx2 := hm3.after hx2 (fun i hi => by subst hi; exact hg2); replace hX := hX.trans hx2; replace ho := own_ext ho hx2; replace hu := hide_ (hu.out.ext TxR.stays hx2); clear hm3 f3 hx2 hrow)
      | ((with_reducible refine at_lit ?_); refine w_new Try.elI (i64s [d.name]) rfl rfl rfl (i64s_cells _) rfl (by omega) ?_; intro v2 w5 hx3 o2; replace o2 : OwnI _ w5 v2 [d.name] := o2; replace ho := own_ext ho hx3; replace hX := hX.trans hx3; clear hx3)
      | ((with_reducible refine at_bi ?_); refine appi _ _ rfl rfl rfl rfl ho o2.ints hbig.out hX.size ?_; intro v9 w9 o9 hb9 hg9 hg9'; replace hX := hX.trans' hb9; replace ho := o9; clear hb9 hg9 hg9' o9 o2)
      | ((with_reducible refine at_load ?_); refine w_aload Try.stBlk _ rfl rfl rfl f2 rfl ?_)
      | fail) <;> (try simp only [Act.put, List.setIfInBounds_toArray, List.set_cons_zero, List.set_cons_succ]))
    go_roundw
    case rel => exact ⟨k + 1, by go_num, hlt'.out, by rw [← he.out]; exact ho, hX⟩
    case measure => have := hlt'.out; simp [RowKit.intOf]; omega
end Go.Proofs.Ytdoeoncmhaihbaa
namespace Go.Proofs.Ytdoeoncmhaihbaa
set_option maxRecDepth 100000
open Go.RowKit

set_option maxRecDepth 100000 in
set_option maxHeartbeats 1600000 in
theorem New_any {w : World} : Calls Try.prog 25 #[] w fun e w' => ∃ (p : Nat) (G : Nat → Prop), e = .returned (.pointer (some ⟨p, 0, none⟩)) ∧ TrW G w' p [] [] ∧ Ext w w' ∧ ∀ k, G k → w.heap.size ≤ k := by
  refine calls_keep ?_
  go_enter Try.func25, Try.ntmps25
  go_wp2_with ((first
    | (refine w_mkmap rfl rfl ?_; intro g w1 hg1 hX hown)
    | ((with_reducible refine at_sbuild ?_); refine w_sbuild Try.stTree [.map (some g), .slice none 0 0] rfl rfl rfl (by simp [Value.cells]; rfl) ?_)
    | ((with_reducible refine at_box ?_); refine w_box _ [.map (some g), .slice none 0 0] rfl rfl rfl rfl ?_; intro p w2 hg2 hx2 f2; have hpg := Nat.lt_of_lt_of_le hown.lt hg2; replace hown := ownsMap_ext hown hx2; have hp := Nat.le_trans hX.size hg2; replace hX := hX.trans hx2)
    | fail) <;> (try simp only [Act.put, List.setIfInBounds_toArray, List.set_cons_zero, List.set_cons_succ]))
  go_ret
  refine Keep.intro ⟨p, fun k => k = p ∨ k = g, rfl, ⟨fun _ => False, g, .slice none 0 0, ⟨f2, ⟨0, .map [], [], by omega, hown, rfl, MapF.nil, by simp⟩, ⟨[], rfl, RowN.nil _ _ _, by simp⟩, ⟨by omega, id, id, fun k hk => by cases hk⟩, ⟨by simp, by simp, .nil, by simp, by simp⟩⟩, fun _ h => h.elim, .inl rfl, .inr rfl, fun k hk => by cases hk⟩, hX, fun k hk => ?_⟩
  rcases hk with rfl | rfl
  · exact hp
  · exact hg1

set_option maxRecDepth 100000 in
set_option maxHeartbeats 1600000 in
theorem ready_any {G : Nat → Prop} {w : World} {p : Nat} {K V : List BlkD} {d : BlkD} {u : Value} (h0 : TrW G w p K V) (hn : I64 d.parent) :
    Calls Try.prog 53 #[.pointer (some ⟨p, 0, none⟩), .agg #[.int .i64 d.slot, .int .i64 d.miner, .int .i64 d.var, .int .i64 d.parent, u]] w fun e w' => e = .returned (.bool (TrS.ready K d)) ∧ Ext w w' := by
  refine calls_keep ?_
  replace h0 := hide_ h0
  replace hn := hide_ hn
  cases hc : (d.parent == 0)
  · have he := hide_ (show TrS.ready K d = TrS.has K d.parent from by
      have : d.parent ≠ 0 := by simpa using hc
      simp [TrS.ready, this])
    go_enter Try.func53, Try.ntmps53
    go_wp2_with ((first
      | (go_at_call 30; refine (Has_any (h0.out.ext hX) hn.out).mono ?_; rintro e w4 ⟨rfl, hx⟩; rw [← he.out]; replace hX := hX.trans hx; clear hx f1)
      | ((with_reducible refine at_box ?_); refine w_box _ (bRow d u) rfl rfl rfl rfl ?_; intro g1 w1 hg1 hX f1)
      | ((with_reducible refine at_field ?_); (try refine w_yes _ _ _ rfl rfl rfl ?_); refine w_field Try.stBlk _ _ _ rfl rfl rfl (by omega) ?_)
      | ((with_reducible refine at_load ?_); (try refine w_yes _ _ _ rfl rfl rfl ?_); refine w_fload _ rfl rfl rfl f1 rfl (agg_of (by kernel_rfl)) ?_)
      | fail) <;> (try simp only [Act.put, List.setIfInBounds_toArray, List.set_cons_zero, List.set_cons_succ]))
    go_ret
    exact Keep.intro ⟨rfl, hX⟩
  · have he := hide_ (show TrS.ready K d = true from by
      have : d.parent = 0 := by simpa using hc
      simp [TrS.ready, this])
    go_enter Try.func53, Try.ntmps53
    go_wp2_with ((first
      | ((with_reducible refine at_box ?_); refine w_box _ (bRow d u) rfl rfl rfl rfl ?_; intro g1 w1 hg1 hX f1)
      | ((with_reducible refine at_field ?_); (try refine w_yes _ _ _ rfl rfl rfl ?_); refine w_field Try.stBlk _ _ _ rfl rfl rfl (by omega) ?_)
      | ((with_reducible refine at_load ?_); (try refine w_yes _ _ _ rfl rfl rfl ?_); refine w_fload _ rfl rfl rfl f1 rfl (agg_of (by kernel_rfl)) ?_)
      | fail) <;> (try simp only [Act.put, List.setIfInBounds_toArray, List.set_cons_zero, List.set_cons_succ]))
    go_ret
    exact Keep.intro ⟨by rw [he.out]; rfl, hX⟩

def getOr (K : List BlkD) (n : Int) : BlkD := (TrS.get K n).getD BlkD.zero
theorem TrC.look5 {X : Nat → Prop} {w : World} {p g : Nat} {v : Value} {K V : List BlkD} (h : TrC X w p g v K V) (n : Int) :
    ∃ cs : List Value, ∃ u : Value, ∃ r : Value, cs.length = 6 ∧ (∀ u ∈ cs, u.oneCell' = true) ∧ Look w g n (.agg cs.toArray) (TrS.has K n) ∧ cs = bRow (getOr K n) u ++ [r] ∧ Recs 2 TxR w u (getOr K n).txs ∧ (getOr K n).txs.length * 16 ≤ 140737488355328 := by
  obtain ⟨cs, h1, h2, h3, h4⟩ := h.look n
  rcases h4 with ⟨hg, rfl⟩ | ⟨d, u, hg, ht, rfl⟩
  · have he : getOr K n = BlkD.zero := by rw [getOr, hg]; rfl
    rw [he]
    exact ⟨_, .slice none 0 0, .int .i64 0, h1, h2, h3, rfl, (RowN.nil (F := fun _ => True) w 0 2).recs rfl (by simp), by simp [BlkD.zero]⟩
  · have he : getOr K n = d := by rw [getOr, hg]; rfl
    rw [he]
    have hd := h.fit.right d (List.mem_append_left _ (TrS.get_some hg).1)
    exact ⟨_, u, _, h1, h2, h3, rfl, ht.1, by have := hd.t.1; omega⟩

set_option maxRecDepth 100000 in
set_option maxHeartbeats 1600000 in
theorem Get_any {G : Nat → Prop} {w : World} {p : Nat} {K V : List BlkD} {n : Int} (h0 : TrW G w p K V) (hn : I64 n) :
    Calls Try.prog 38 #[.pointer (some ⟨p, 0, none⟩), .int .i64 n] w fun e w' => ∃ u, e = .returned (.tuple #[.agg (bRow (getOr K n) u).toArray, .bool (TrS.has K n)]) ∧ OwnT w.heap.size w' u (getOr K n).txs ∧ Ext w w' := by
  refine calls_keep ?_
  obtain ⟨X, g, v, h1, _⟩ := h0
  have f1 := h1.obj
  have hn' := hide_ hn
  obtain ⟨cs, uc, rc, hlen, hone, hl, hcs, hr, hl16⟩ := h1.look5 n
  obtain ⟨b, hb⟩ : ∃ b, getOr K n = b := ⟨_, rfl⟩
  obtain ⟨q, hq⟩ : ∃ q, TrS.has K n = q := ⟨_, rfl⟩
  rw [hb] at hcs hr hl16 ⊢
  rw [hq] at hl ⊢
  have hsub := hide_ (show ∀ j u, (bRow b uc)[j]? = some u → cs[0 + j]? = some u from fun j u hj => by
    rw [hcs, Nat.zero_add, List.getElem?_append_left (List.getElem?_eq_some_iff.1 hj).1]; exact hj)
  replace hl := hide_ hl
  replace hr := hide_ hr
  replace hl16 := hide_ hl16
  have hX := Ext.refl w
  clear h1 hq hb hcs
  go_enter Try.func38, Try.ntmps38
  go_wp2_with ((first
    | (go_at_call 32; refine (BCopy_any (b := b) (hr.out.ext TxR.stays hX) hl16.out).mono ?_; rintro e w8 ⟨u9, rfl, o9, hx⟩; have n49 : ∀ k, u9.ownBlock = some k → ¬ g4 = k := (fun k hk e => by have h1 := o9.new k hk; have h2 := f4.lt; omega); replace o9 := o9.mono hX.size; replace f4 := f4.ext hx; replace hX := hX.trans hx; have hone9 := blk_one (a := b.slot) (b := b.miner) (c := b.var) (d := b.parent) o9.recs.one'; clear hx f2)
    | (refine w_mlook _ _ rfl rfl rfl rfl hl.out hn'.out ?_)
    | ((with_reducible refine at_alloc ?_); refine w_alloc Try.stBlk rfl rfl ?_; intro g4 w1 hg4 hX f4; replace hl := hide_ (hl.out.ext hX); replace f1 := f1.ext hX)
    | ((with_reducible refine at_alloc ?_); refine w_allocN Try.stKn rfl rfl ?_; intro g2 w2 hg2 hx2 f2)
    | ((with_reducible refine at_store ?_); refine w_astoreN Try.stKn _ _ rfl rfl rfl rfl rfl f2 rfl hlen hone ?_; intro w3 hm3 f3; replace f2 : Fs w3 g2 cs := f3; replace hx2 := hm3.after hx2 (fun i hi => by subst hi; exact hg2); replace hX := hX.trans hx2; replace f4 := f4.ext hx2; clear hx2 hm3 f3)
    | ((with_reducible refine at_store ?_); refine w_astore Try.stBlk _ _ (us := bRow b u9) rfl rfl rfl rfl rfl f4 rfl rfl hone9 ?_; intro w3 hm3 f3; replace f4 : Fs w3 g4 (bRow b u9) := f3; replace o9 := o9.mod hm3 (fun k hk e => n49 k hk e.symm); replace hX := hm3.after hX (fun i hi => by subst hi; exact hg4); clear hm3 f3 n49)
    | ((with_reducible refine at_field ?_); (try refine w_yes _ _ _ rfl rfl rfl ?_); refine w_field Try.stTree _ _ _ rfl rfl rfl (by omega) ?_)
    | ((with_reducible refine at_field ?_); refine w_fieldN (i := 0) (off := 0) (by kernel_rfl) _ _ rfl rfl rfl ?_)
    | ((with_reducible refine at_load ?_); refine w_loadN Try.stBlk.toN _ (bRow b uc) rfl rfl rfl f2 rfl hsub.out ?_)
    | ((with_reducible refine at_load ?_); (try refine w_yes _ _ _ rfl rfl rfl ?_); refine w_fload _ rfl rfl rfl f1 rfl (agg_of (by kernel_rfl)) ?_)
    | fail) <;> (try simp only [Act.put, List.setIfInBounds_toArray, List.set_cons_zero, List.set_cons_succ]))
  exact bodyPost_ret (ret_two Try.stBlk rfl rfl rfl f4 rfl) rfl (Keep.intro ⟨u9, rfl, o9, hX⟩)
end Go.Proofs.Ytdoeoncmhaihbaa
