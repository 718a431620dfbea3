/- Blocks as a tree, those that wait among them, as plain mathematics. No program. -/
import Derived.Test.YtdacclcaopmalaaBlkN
namespace Go.Proofs.Ytdacclcaopmalaa
set_option maxRecDepth 100000

/-- Known blocks, and those that wait, in the order in which they came. -/
structure TrS where
  known : List BlkD
  wait : List BlkD
namespace TrS
def has (K : List BlkD) (n : Int) : Bool := K.any fun x => decide (x.name = n)
def ready (K : List BlkD) (b : BlkD) : Bool := decide (b.parent = 0) || has K b.parent
/-- The first one that stands on one that is known, and the others. -/
def pick (K : List BlkD) : List BlkD → Option (BlkD × List BlkD)
  | [] => none
  | x :: W => if ready K x then some (x, W) else (pick K W).map fun p => (p.1, x :: p.2)
/-- As long as one that waits stands on one that is known. -/
def drain : Nat → List BlkD → List BlkD → List Int → List BlkD × List BlkD × List Int
  | 0, K, W, o => (K, W, o)
  | f + 1, K, W, o => match pick K W with
    | none => (K, W, o)
    | some (x, r) => if K.length < 400 then drain f (K ++ [x]) r (o ++ [x.name]) else drain f K r o
def add (t : TrS) (b : BlkD) : TrS × List Int × Bool :=
  if b.name = 0 ∨ has t.known b.name = true ∨ has t.wait b.name = true then (t, [], false)
  else if ready t.known b then
    if t.known.length < 400 then (let d := drain t.wait.length (t.known ++ [b]) t.wait [b.name]; (⟨d.1, d.2.1⟩, d.2.2, true)) else (t, [], false)
  else (⟨t.known, if 16 < (t.wait ++ [b]).length then (t.wait ++ [b]).drop 1 else t.wait ++ [b]⟩, [], true)

theorem has_iff {K : List BlkD} {n : Int} : has K n = true ↔ ∃ x ∈ K, x.name = n := by simp [has]
theorem ready_iff {K : List BlkD} {b : BlkD} : ready K b = true ↔ b.parent = 0 ∨ ∃ x ∈ K, x.name = b.parent := by simp [ready, has]
theorem ready_mono {K K' : List BlkD} {b : BlkD} (h : ready K b = true) (hs : ∀ x ∈ K, x ∈ K') : ready K' b = true := by
  rw [ready_iff] at h ⊢
  exact h.imp id fun ⟨x, h1, h2⟩ => ⟨x, hs x h1, h2⟩
theorem pick_none {K : List BlkD} : ∀ {W : List BlkD}, pick K W = none → ∀ x ∈ W, ready K x = false
  | [], _, x, hx => by simp at hx
  | y :: W, h, x, hx => by
    unfold pick at h
    split at h
    · cases h
    · rename_i hn
      have h' : pick K W = none := by
        cases hp : pick K W with
        | none => rfl
        | some p => rw [hp] at h; cases h
      rcases List.mem_cons.1 hx with rfl | hx
      · simpa using hn
      · exact pick_none h' x hx
theorem pick_some {K : List BlkD} : ∀ {W : List BlkD} {x : BlkD} {r : List BlkD}, pick K W = some (x, r) → ready K x = true ∧ W.Perm (x :: r)
  | [], x, r, h => by cases h
  | y :: W, x, r, h => by
    unfold pick at h
    split at h
    · rename_i hy
      simp only [Option.some.injEq, Prod.mk.injEq] at h
      obtain ⟨rfl, rfl⟩ := h
      exact ⟨hy, List.Perm.refl _⟩
    · cases hp : pick K W with
      | none => rw [hp] at h; cases h
      | some p =>
        rw [hp] at h
        simp only [Option.map_some, Option.some.injEq, Prod.mk.injEq] at h
        obtain ⟨rfl, rfl⟩ := h
        obtain ⟨h1, h2⟩ := pick_some (x := p.1) (r := p.2) hp
        exact ⟨h1, (List.Perm.cons y h2).trans (List.Perm.swap p.1 y p.2)⟩
/-- Each known one stands on one that was known ahead of it. -/
inductive Stood : List BlkD → Prop
  | nil : Stood []
  | snoc {K : List BlkD} {b : BlkD} : Stood K → ready K b = true → Stood (K ++ [b])
/-- What a drain leaves. -/
theorem drain_spec : ∀ (f : Nat) (K W : List BlkD) (o : List Int), W.length ≤ f → Stood K →
    let d := drain f K W o
    Stood d.1 ∧ K <+: d.1 ∧ (∀ x ∈ d.2.1, ready d.1 x = false) ∧ d.2.1.length ≤ W.length ∧ (∀ x ∈ d.2.1, x ∈ W) ∧ (∀ x ∈ d.1, x ∈ K ∨ x ∈ W) ∧ (K.length + W.length ≤ 400 → (d.1 ++ d.2.1).Perm (K ++ W))
  | 0, K, W, o, h, hs => by
    have : W = [] := List.eq_nil_of_length_eq_zero (by omega)
    subst this
    exact ⟨hs, List.prefix_refl _, by simp [drain], by simp [drain], by simp [drain], by simp [drain], fun _ => by simp [drain]⟩
  | f + 1, K, W, o, h, hs => by
    cases hp : pick K W with
    | none =>
      simp only [drain, hp]
      exact ⟨hs, List.prefix_refl _, pick_none hp, Nat.le_refl _, fun x hx => hx, fun x hx => .inl hx, fun _ => List.Perm.refl _⟩
    | some p =>
      obtain ⟨x, r⟩ := p
      obtain ⟨h1, h2⟩ := pick_some hp
      have hl := h2.length_eq
      simp only [List.length_cons] at hl
      have hxW : x ∈ W := h2.mem_iff.2 (List.mem_cons_self ..)
      have hrW : ∀ y ∈ r, y ∈ W := fun y hy => h2.mem_iff.2 (List.mem_cons_of_mem _ hy)
      simp only [drain, hp]
      split
      · rename_i hK
        obtain ⟨g1, g2, g3, g4, g5, g6, g7⟩ := drain_spec f (K ++ [x]) r (o ++ [x.name]) (by omega) (.snoc hs h1)
        refine ⟨g1, (List.prefix_append _ _).trans g2, g3, by omega, fun y hy => hrW y (g5 y hy), fun y hy => ?_, fun hc => ?_⟩
        · rcases g6 y hy with h3 | h3
          · rcases List.mem_append.1 h3 with h4 | h4
            · exact .inl h4
            · rw [List.mem_singleton] at h4; subst h4; exact .inr hxW
          · exact .inr (hrW y h3)
        · have := g7 (by rw [List.length_append, List.length_singleton]; omega)
          refine this.trans ?_
          rw [List.append_assoc]
          exact List.Perm.append_left K h2.symm
      · rename_i hK
        obtain ⟨g1, g2, g3, g4, g5, g6, g7⟩ := drain_spec f K r o (by omega) hs
        refine ⟨g1, g2, g3, by omega, fun y hy => hrW y (g5 y hy), fun y hy => (g6 y hy).imp id (hrW y), fun hc => ?_⟩
        omega
/-- In a list of blocks: those whose way leads to the ground. -/
inductive Gr (L : List BlkD) : BlkD → Prop
  | base {b : BlkD} : b ∈ L → b.parent = 0 → Gr L b
  | step {b c : BlkD} : b ∈ L → Gr L c → c.name = b.parent → Gr L b
theorem Gr.mem {L : List BlkD} {b : BlkD} (h : Gr L b) : b ∈ L := by cases h <;> assumption
theorem Gr.perm {L M : List BlkD} (h : ∀ x ∈ L, x ∈ M) {b : BlkD} (hb : Gr L b) : Gr M b := by
  induction hb with
  | base h1 h2 => exact .base (h _ h1) h2
  | step h1 _ h3 ih => exact .step (h _ h1) ih h3
theorem Stood.gr {L : List BlkD} : ∀ {K : List BlkD}, Stood K → (∀ x ∈ K, x ∈ L) → ∀ x ∈ K, Gr L x := by
  intro K hK
  induction hK with
  | nil => intro _ x hx; simp at hx
  | snoc hs hr ih =>
    rename_i K b
    intro hm x hx
    have ih' := ih fun y hy => hm y (List.mem_append_left _ hy)
    rcases List.mem_append.1 hx with hx | hx
    · exact ih' x hx
    · rw [List.mem_singleton] at hx; subst hx
      have hxL := hm x (List.mem_append_right _ (List.mem_singleton_self _))
      rcases ready_iff.1 hr with h1 | ⟨c, h1, h2⟩
      · exact .base hxL h1
      · exact .step hxL (ih' c h1) h2
/-- Where none that waits stands on one that is known, all that can be known are. -/
theorem known_all {K W L : List BlkD} (hp : ∀ x, x ∈ L ↔ x ∈ K ∨ x ∈ W) (hw : ∀ x ∈ W, ready K x = false) {b : BlkD} (hb : Gr L b) : b ∈ K := by
  induction hb with
  | base h1 h2 =>
    rcases (hp _).1 h1 with h | h
    · exact h
    · have := hw _ h
      rw [ready_iff.2 (.inl h2)] at this; cases this
  | step h1 _ h3 ih =>
    rcases (hp _).1 h1 with h | h
    · exact h
    · have := hw _ h
      rw [ready_iff.2 (.inr ⟨_, ih, h3⟩)] at this; cases this
/-- Behind few blocks of unlike names, in whichever order they came: known are just those whose way leads to the ground. -/
structure After (L : List BlkD) (t : TrS) : Prop where
  st : Stood t.known
  perm : (t.known ++ t.wait).Perm L
  calm : ∀ x ∈ t.wait, ready t.known x = false
theorem After.known {L : List BlkD} {t : TrS} (h : After L t) (b : BlkD) : b ∈ t.known ↔ Gr L b := by
  have hp : ∀ x, x ∈ L ↔ x ∈ t.known ∨ x ∈ t.wait := fun x => by rw [← h.perm.mem_iff, List.mem_append]
  exact ⟨fun hb => h.st.gr (fun x hx => (hp x).2 (.inl hx)) b hb, fun hb => known_all hp h.calm hb⟩
theorem After.nil : After [] ⟨[], []⟩ := ⟨.nil, List.Perm.refl _, by simp⟩
theorem After.add {L : List BlkD} {t : TrS} (h : After L t) {b : BlkD} (h0 : b.name ≠ 0) (hn : ∀ x ∈ L, x.name ≠ b.name) (hl : L.length < 16) : After (L ++ [b]) (add t b).1 := by
  have hlen := h.perm.length_eq
  rw [List.length_append] at hlen
  have hk : has t.known b.name = false := by
    cases hh : has t.known b.name with
    | false => rfl
    | true => obtain ⟨x, h1, h2⟩ := has_iff.1 hh; exact absurd h2 (hn x (h.perm.mem_iff.1 (List.mem_append_left _ h1)))
  have hwt : has t.wait b.name = false := by
    cases hh : has t.wait b.name with
    | false => rfl
    | true => obtain ⟨x, h1, h2⟩ := has_iff.1 hh; exact absurd h2 (hn x (h.perm.mem_iff.1 (List.mem_append_right _ h1)))
  unfold TrS.add
  rw [if_neg (by rw [hk, hwt]; simp [h0])]
  split
  · rename_i hr
    rw [if_pos (by omega)]
    obtain ⟨g1, g2, g3, g4, g5, g6, g7⟩ := drain_spec t.wait.length (t.known ++ [b]) t.wait [b.name] (Nat.le_refl _) (.snoc h.st hr)
    refine ⟨g1, ?_, g3⟩
    refine (g7 (by rw [List.length_append, List.length_singleton]; omega)).trans ?_
    have : (t.known ++ [b] ++ t.wait).Perm (t.known ++ t.wait ++ [b]) := by
      rw [List.append_assoc, List.append_assoc]
      exact List.Perm.append_left _ List.perm_append_comm
    exact this.trans (List.Perm.append_right _ h.perm)
  · rename_i hr
    have hw16 : ¬ 16 < (t.wait ++ [b]).length := by rw [List.length_append, List.length_singleton]; omega
    refine ⟨h.st, ?_, ?_⟩
    · show (t.known ++ (if 16 < (t.wait ++ [b]).length then (t.wait ++ [b]).drop 1 else t.wait ++ [b])).Perm _
      rw [if_neg hw16, ← List.append_assoc]
      exact List.Perm.append_right _ h.perm
    · show ∀ x ∈ (if 16 < (t.wait ++ [b]).length then (t.wait ++ [b]).drop 1 else t.wait ++ [b]), _
      rw [if_neg hw16]
      intro x hx
      rcases List.mem_append.1 hx with hx | hx
      · exact h.calm x hx
      · rw [List.mem_singleton] at hx; subst hx; simpa using hr
/-- In whichever order: the same are known, as many wait. -/
theorem After.turns {L M : List BlkD} {t u : TrS} (h : After L t) (k : After M u) (hp : L.Perm M) : (∀ b, b ∈ t.known ↔ b ∈ u.known) ∧ (∀ b, Gr L b ↔ Gr M b) ∧ t.known.length + t.wait.length = u.known.length + u.wait.length := by
  have hg : ∀ b, Gr L b ↔ Gr M b := fun b => ⟨fun h => h.perm fun x hx => hp.mem_iff.1 hx, fun h => h.perm fun x hx => hp.mem_iff.2 hx⟩
  refine ⟨fun b => by rw [h.known, k.known]; exact hg b, hg, ?_⟩
  have h1 := h.perm.length_eq; have h2 := k.perm.length_eq; have h3 := hp.length_eq
  rw [List.length_append] at h1 h2
  omega
end TrS
end Go.Proofs.Ytdacclcaopmalaa
