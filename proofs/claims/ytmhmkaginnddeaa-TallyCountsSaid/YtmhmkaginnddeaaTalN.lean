/- Votes counted, as plain mathematics: over a table of first votes (who voted what in which kind and view). No program. -/
import Derived.Test.YtmhmkaginnddeaaSTK
namespace Go.Proofs.Ytmhmkaginnddeaa
set_option maxRecDepth 100000

structure VtD where
  k : Int
  w : Int
  f : Int
  x : Int
/-- A table: of a kind, a view and a node its first vote. -/
def Tab : Type := Int → Int → Nat → Option Int
namespace Tab
variable (g : Tab)
def has (k w x : Int) (i : Nat) : Bool := decide (g k w i = some x)
def any (k w : Int) (i : Nat) : Bool := (g k w i).isSome
def who (n : Nat) (k w x : Int) : List Int := picks (g.has k w x) n
def all (n : Nat) (k w : Int) : List Int := picks (g.any k w) n
/-- x has most in this kind and view. -/
def Mst (t : List Int) (k w x : Int) : Prop := most t (g.who t.length k w x) = true
/-- In view w or in a greater one (of a thousand) node i has voted. -/
def from' (w : Int) (i : Nat) : Bool := decide (∃ j : Nat, j ≤ 1000 ∧ w ≤ (j : Int) ∧ (g 4 j i ≠ none ∨ g 5 j i ≠ none))
def Ahd (t : List Int) (w : Int) : Prop := some3 t (picks (g.from' w) t.length) = true
variable {g}
theorem has_iff {k w x : Int} {i : Nat} : g.has k w x i = true ↔ g k w i = some x := by simp [has]
/-- Who has most is somebody. -/
theorem Mst.one {t : List Int} (ht : StOk t) {k w x : Int} (h : g.Mst t k w x) : ∃ i, i < t.length ∧ g k w i = some x := by
  by_cases hc : ∃ i, i < t.length ∧ g k w i = some x
  · exact hc
  · exfalso
    have hz : sumS t (g.who t.length k w x) = 0 := by
      unfold who
      rw [sum_picks]
      have : ws t (g.has k w x) t.length = ws t (fun _ => false) t.length := ws_congr _ fun i hi => by
        cases hb : g.has k w x i with
        | false => rfl
        | true => exact absurd ⟨i, hi, has_iff.1 hb⟩ hc
      rw [this]
      have : ∀ n, ws t (fun _ => false) n = 0 := fun n => by
        induction n with
        | zero => rfl
        | succ n ih => rw [ws, ih]; simp
      exact this _
    have h1 := tot_pos ht
    unfold Mst most at h
    rw [hz] at h
    simp only [decide_eq_true_eq] at h
    omega
/-- One value has most. -/
theorem Mst.uniq {t : List Int} (ht : StOk t) {k w x y : Int} (h : g.Mst t k w x) (h' : g.Mst t k w y) : x = y := by
  have hm := (two_meet ht _ _ h h').1
  have h1 := tot_pos ht
  by_cases e : x = y
  · exact e
  · exfalso
    have hz : sumS t (picks (fun i => inn (g.who t.length k w x) i && inn (g.who t.length k w y) i) t.length) = 0 := by
      rw [sum_picks]
      have : ws t (fun i => inn (g.who t.length k w x) i && inn (g.who t.length k w y) i) t.length = ws t (fun _ => false) t.length := ws_congr _ fun i hi => by
        simp only [who, inn_picks _ _ hi]
        cases h1 : g.has k w x i with
        | false => rfl
        | true =>
          cases h2 : g.has k w y i with
          | false => rfl
          | true =>
            have := (has_iff.1 h1).symm.trans (has_iff.1 h2)
            injection this with this
            exact absurd this e
      rw [this]
      have : ∀ n, ws t (fun _ => false) n = 0 := fun n => by
        induction n with
        | zero => rfl
        | succ n ih => rw [ws, ih]; simp
      exact this _
    unfold some3 at hm
    rw [hz] at hm
    simp only [decide_eq_true_eq] at hm
    omega
/-- More votes. -/
def Le (g g' : Tab) : Prop := ∀ k w i x, g k w i = some x → g' k w i = some x
theorem most_mono {t : List Int} (ht : StOk t) {p q : Nat → Bool} (h : ∀ i, i < t.length → p i = true → q i = true) (hm : most t (picks p t.length) = true) : most t (picks q t.length) = true := by
  have := ws_mono ht t.length h
  unfold most at hm ⊢
  simp only [sum_picks, decide_eq_true_eq] at hm ⊢
  omega
theorem some_mono {t : List Int} (ht : StOk t) {p q : Nat → Bool} (h : ∀ i, i < t.length → p i = true → q i = true) (hm : some3 t (picks p t.length) = true) : some3 t (picks q t.length) = true := by
  have := ws_mono ht t.length h
  unfold some3 at hm ⊢
  simp only [sum_picks, decide_eq_true_eq] at hm ⊢
  omega
theorem Le.mst {g g' : Tab} {t : List Int} (ht : StOk t) (h : Le g g') {k w x : Int} (hm : g.Mst t k w x) : g'.Mst t k w x :=
  most_mono ht (fun _ _ hi => has_iff.2 (h _ _ _ _ (has_iff.1 hi))) hm
theorem Le.none {g g' : Tab} (h : Le g g') {k w : Int} {i : Nat} (hn : g k w i ≠ none) : g' k w i ≠ none := by
  cases hg : g k w i with
  | none => exact absurd hg hn
  | some x => rw [h _ _ _ _ hg]; simp
theorem Le.ahd {g g' : Tab} {t : List Int} (ht : StOk t) (h : Le g g') {w : Int} (hm : g.Ahd t w) : g'.Ahd t w :=
  some_mono ht (fun i _ hi => by
    obtain ⟨j, h1, h2, h3⟩ := of_decide_eq_true hi
    exact decide_eq_true ⟨j, h1, h2, h3.imp h.none h.none⟩) hm
/-- Who has most for a value is, if all that voted are of a set, of that set. -/
theorem few_mst {t : List Int} (ht : StOk t) {who : List Int} (h : ∀ k w i, g k w i ≠ none → inn who i = true) {k w x : Int} (hm : g.Mst t k w x) : most t who = true := by
  have := ws_mono ht (p := g.has k w x) (q := inn who) t.length fun i _ hi => h k w i (by rw [has_iff.1 hi]; simp)
  unfold Mst most Tab.who at hm
  unfold most sumS
  simp only [sum_picks, decide_eq_true_eq] at hm ⊢
  omega
theorem few_ahd {t : List Int} (ht : StOk t) {who : List Int} (h : ∀ k w i, g k w i ≠ none → inn who i = true) {w : Int} (hm : g.Ahd t w) : some3 t who = true := by
  have := ws_mono ht (p := g.from' w) (q := inn who) t.length fun i _ hi => by
    obtain ⟨j, _, _, h3⟩ := of_decide_eq_true hi
    exact h3.elim (h _ _ i) (h _ _ i)
  unfold Ahd some3 at hm
  unfold some3 sumS
  simp only [sum_picks, decide_eq_true_eq] at hm ⊢
  omega
/-- The value that has most, where there is one. -/
def mostOf (g : Tab) (t : List Int) (k w : Int) : Option Int := ((List.range t.length).findSome? fun i => match g k w i with
  | some x => if most t (g.who t.length k w x) then some x else Option.none
  | Option.none => Option.none)
theorem mostOf_iff {t : List Int} (ht : StOk t) {k w x : Int} : g.mostOf t k w = some x ↔ g.Mst t k w x := by
  constructor
  · intro h
    obtain ⟨i, _, hi⟩ := List.exists_of_findSome?_eq_some h
    cases hg : g k w i with
    | none => rw [hg] at hi; cases hi
    | some y =>
      rw [hg] at hi
      simp only at hi
      split at hi
      · rename_i hm; injection hi with hi; subst hi; exact hm
      · cases hi
  · intro h
    obtain ⟨i, hi, hg⟩ := h.one ht
    cases hr : g.mostOf t k w with
    | none =>
      unfold mostOf at hr
      rw [List.findSome?_eq_none_iff] at hr
      have := hr i (List.mem_range.2 hi)
      rw [hg] at this
      simp only at this
      rw [if_pos (show most t (g.who t.length k w x) = true from h)] at this
      cases this
    | some y =>
      obtain ⟨j, _, hj⟩ := List.exists_of_findSome?_eq_some hr
      cases hgj : g k w j with
      | none => rw [hgj] at hj; cases hj
      | some z =>
        rw [hgj] at hj
        simp only at hj
        split at hj
        · rename_i hm
          injection hj with hj
          subst hj
          exact congrArg some (Mst.uniq ht hm h)
        · cases hj
/-- The value of the least view in which something that isn't -1 is committed. -/
def commAt (g : Tab) (t : List Int) (j : Nat) : Option Int := match g.mostOf t 5 j with
  | some x => if x = -1 then Option.none else some x
  | Option.none => Option.none
theorem commAt_iff {t : List Int} (ht : StOk t) {j : Nat} {x : Int} : g.commAt t j = some x ↔ g.Mst t 5 j x ∧ x ≠ -1 := by
  rw [← mostOf_iff ht]
  unfold commAt
  cases h : g.mostOf t 5 j with
  | none => simp
  | some y =>
    simp only [Option.some.injEq]
    split
    · rename_i e; subst e; exact ⟨(fun h => nomatch h), fun h => absurd h.1.symm h.2⟩
    · rename_i e; rw [Option.some.injEq]; exact ⟨fun h => ⟨h, (by rw [← h]; exact e)⟩, fun h => h.1⟩
def commOf (g : Tab) (t : List Int) : Option Int := (List.range 1001).findSome? (g.commAt t)
theorem commOf_some {t : List Int} {x : Int} (h : g.commOf t = some x) : ∃ j : Nat, j ≤ 1000 ∧ g.commAt t j = some x := by
  obtain ⟨j, hj, hx⟩ := List.exists_of_findSome?_eq_some h
  exact ⟨j, by have := List.mem_range.1 hj; omega, hx⟩
theorem commOf_none {t : List Int} (h : g.commOf t = Option.none) : ∀ j : Nat, j ≤ 1000 → g.commAt t j = Option.none := fun j hj => by
  unfold commOf at h
  rw [List.findSome?_eq_none_iff] at h
  exact h j (List.mem_range.2 (by omega))
theorem findSome_first {α : Type} (f : Nat → Option α) : ∀ (n j : Nat) {x : α}, j < n → f j = some x → (∀ i, i < j → f i = Option.none) → (List.range n).findSome? f = some x
  | 0, j, _, h, _, _ => by omega
  | n + 1, j, x, h, hj, hl => by
    rw [List.range_succ, List.findSome?_append]
    by_cases hjn : j < n
    · rw [findSome_first f n j hjn hj hl]; rfl
    · obtain rfl : j = n := by omega
      have : (List.range j).findSome? f = Option.none := by
        rw [List.findSome?_eq_none_iff]
        exact fun i hi => hl i (List.mem_range.1 hi)
      rw [this]; simp [hj]
theorem commOf_first {t : List Int} {j : Nat} {x : Int} (hj : j ≤ 1000) (h : g.commAt t j = some x) (hl : ∀ i, i < j → g.commAt t i = Option.none) : g.commOf t = some x := findSome_first _ _ j (by omega) h hl
theorem Le.comm {g g' : Tab} {t : List Int} (ht : StOk t) (h : Le g g') (hc : g.commOf t ≠ Option.none) : g'.commOf t ≠ Option.none := by
  cases hx : g.commOf t with
  | none => exact absurd hx hc
  | some x =>
    obtain ⟨j, hj, hq⟩ := commOf_some hx
    have hm := (commAt_iff ht).1 hq
    intro hn
    have := commOf_none hn j hj
    rw [(commAt_iff ht).2 ⟨h.mst ht hm.1, hm.2⟩] at this
    cases this
theorem few_comm {t : List Int} (ht : StOk t) {who : List Int} (h : ∀ k w i, g k w i ≠ Option.none → inn who i = true) (hc : g.commOf t ≠ Option.none) : most t who = true := by
  cases hx : g.commOf t with
  | none => exact absurd hx hc
  | some x =>
    obtain ⟨j, _, hq⟩ := commOf_some hx
    exact few_mst ht h ((commAt_iff ht).1 hq).1
/-- The greatest view above w in which, or behind which, enough have voted; w, if there is none. -/
def aheadTo (g : Tab) (t : List Int) (w : Int) : Nat → Int
  | 0 => w
  | n + 1 => if w < (n : Int) ∧ some3 t (picks (g.from' n) t.length) = true then (n : Int) else aheadTo g t w n
def aheadOf (g : Tab) (t : List Int) (w : Int) : Int := g.aheadTo t w 1001
theorem aheadTo_spec {t : List Int} {w : Int} : ∀ n : Nat, (g.aheadTo t w n = w ∧ ∀ j : Nat, j < n → w < (j : Int) → ¬ g.Ahd t j) ∨ (∃ m : Nat, m < n ∧ g.aheadTo t w n = (m : Int) ∧ w < (m : Int) ∧ g.Ahd t m ∧ ∀ j : Nat, j < n → m < j → ¬ g.Ahd t j)
  | 0 => .inl ⟨rfl, fun j h => by omega⟩
  | n + 1 => by
    unfold aheadTo
    split
    · rename_i h
      exact .inr ⟨n, by omega, rfl, h.1, h.2, fun j h1 h2 => by omega⟩
    · rename_i h
      rcases aheadTo_spec n with ⟨h1, h2⟩ | ⟨m, h1, h2, h3, h4, h5⟩
      · refine .inl ⟨h1, fun j hj hw ha => ?_⟩
        by_cases e : j = n
        · subst e; exact h ⟨hw, ha⟩
        · exact h2 j (by omega) hw ha
      · refine .inr ⟨m, by omega, h2, h3, h4, fun j hj hm ha => ?_⟩
        by_cases e : j = n
        · subst e; exact h ⟨by omega, ha⟩
        · exact h5 j (by omega) hm ha
/-- Which it is: told by what it is. -/
theorem aheadOf_is {t : List Int} {w : Int} {m : Nat} (hm : m ≤ 1000) (hw : w < (m : Int)) (ha : g.Ahd t m) (hl : ∀ j : Nat, j ≤ 1000 → m < j → ¬ g.Ahd t j) : g.aheadOf t w = (m : Int) := by
  rcases aheadTo_spec (g := g) (t := t) (w := w) 1001 with ⟨_, h2⟩ | ⟨c, h1, h2, _, h4, h5⟩
  · exact absurd ha (h2 m (by omega) hw)
  · have e : c = m := by
      rcases Nat.lt_trichotomy c m with h | h | h
      · exact absurd ha (h5 m (by omega) h)
      · exact h
      · exact absurd h4 (hl c (by omega) h)
    unfold aheadOf; rw [h2, e]
theorem aheadOf_self {t : List Int} {w : Int} (hl : ∀ j : Nat, j ≤ 1000 → w < (j : Int) → ¬ g.Ahd t j) : g.aheadOf t w = w := by
  rcases aheadTo_spec (g := g) (t := t) (w := w) 1001 with ⟨h1, _⟩ | ⟨c, h1, _, h3, h4, _⟩
  · exact h1
  · exact absurd h4 (hl c (by omega) h3)
theorem Le.ahead {g g' : Tab} {t : List Int} (ht : StOk t) (h : Le g g') (w : Int) : g.aheadOf t w ≤ g'.aheadOf t w := by
  have hw' : w ≤ g'.aheadOf t w := by
    rcases aheadTo_spec (g := g') (t := t) (w := w) 1001 with ⟨h1, _⟩ | ⟨c, _, h2, h3, _⟩
    · unfold aheadOf; omega
    · unfold aheadOf; omega
  rcases aheadTo_spec (g := g) (t := t) (w := w) 1001 with ⟨h1, _⟩ | ⟨c, h1, h2, h3, h4, _⟩
  · unfold aheadOf at *; omega
  · rcases aheadTo_spec (g := g') (t := t) (w := w) 1001 with ⟨_, k2⟩ | ⟨d, k1, k2, _, _, k5⟩
    · exact absurd (h.ahd ht h4) (k2 c h1 h3)
    · have : ¬ d < c := fun hd => k5 c h1 hd (h.ahd ht h4)
      unfold aheadOf; omega
theorem few_ahead {t : List Int} (ht : StOk t) {who : List Int} (h : ∀ k w i, g k w i ≠ Option.none → inn who i = true) {w : Int} (hne : g.aheadOf t w ≠ w) : some3 t who = true := by
  rcases aheadTo_spec (g := g) (t := t) (w := w) 1001 with ⟨h1, _⟩ | ⟨_, _, _, _, h4, _⟩
  · exact absurd h1 hne
  · exact few_ahd ht h h4
end Tab
/-! ### A table out of a list of votes -/
/-- The first vote of that kind, view and node. -/
def ofV : List VtD → Tab
  | [], _, _, _ => none
  | v :: l, k, w, i => if v.k = k ∧ v.w = w ∧ v.f = (i : Int) then some v.x else ofV l k w i
/-- Can it be counted, of so many nodes? -/
def VtOk (n : Nat) (v : VtD) : Prop := (v.k = 4 ∨ v.k = 5) ∧ (0 ≤ v.w ∧ v.w ≤ 1000) ∧ (0 ≤ v.f ∧ v.f < (n : Int)) ∧ -1 ≤ v.x
instance (n : Nat) (v : VtD) : Decidable (VtOk n v) := by unfold VtOk; infer_instance
def addV (n : Nat) (l : List VtD) (v : VtD) : List VtD := if VtOk n v ∧ ofV l v.k v.w v.f.toNat = none then l ++ [v] else l
def votesOf (n : Nat) (l : List VtD) : List VtD := l.foldl (addV n) []
theorem ofV_app (l m : List VtD) (k w : Int) (i : Nat) : ofV (l ++ m) k w i = (ofV l k w i).or (ofV m k w i) := by
  induction l with
  | nil => simp [ofV]
  | cons v l ih =>
    simp only [List.cons_append, ofV]
    split
    · rfl
    · exact ih
theorem ofV_le_app (l m : List VtD) : Tab.Le (ofV l) (ofV (l ++ m)) := fun k w i x h => by rw [ofV_app, h]; rfl
theorem addV_le (n : Nat) (l : List VtD) (v : VtD) : Tab.Le (ofV l) (ofV (addV n l v)) := by
  unfold addV
  split
  · exact ofV_le_app l [v]
  · exact fun _ _ _ _ h => h
theorem foldl_le (n : Nat) : ∀ (m l : List VtD), Tab.Le (ofV l) (ofV (m.foldl (addV n) l))
  | [], _ => fun _ _ _ _ h => h
  | v :: m, l => fun k w i x h => foldl_le n m (addV n l v) k w i x (addV_le n l v k w i x h)
/-- More votes unmake nothing. -/
theorem votesOf_take (n : Nat) (l : List VtD) (c : Nat) : Tab.Le (ofV (votesOf n (l.take c))) (ofV (votesOf n l)) := by
  have h := foldl_le n (l.drop c) (votesOf n (l.take c))
  unfold votesOf at *
  rwa [← List.foldl_append, List.take_append_drop] at h
/-- Whoever is in the table voted so, and could. -/
theorem ofV_mem {l : List VtD} {k w : Int} {i : Nat} {x : Int} (h : ofV l k w i = some x) : ∃ v ∈ l, v.k = k ∧ v.w = w ∧ v.f = (i : Int) ∧ v.x = x := by
  induction l with
  | nil => cases h
  | cons v l ih =>
    simp only [ofV] at h
    split at h
    · rename_i hc; injection h with h; exact ⟨v, List.mem_cons_self .., hc.1, hc.2.1, hc.2.2, h⟩
    · obtain ⟨u, hu, hr⟩ := ih h; exact ⟨u, List.mem_cons_of_mem _ hu, hr⟩
theorem votesOf_ok (n : Nat) (l : List VtD) : ∀ v ∈ votesOf n l, VtOk n v ∧ v ∈ l := by
  have key : ∀ (m acc : List VtD), (∀ v ∈ acc, VtOk n v ∧ v ∈ l) → (∀ v ∈ m, v ∈ l) → ∀ v ∈ m.foldl (addV n) acc, VtOk n v ∧ v ∈ l := by
    intro m
    induction m with
    | nil => exact fun acc h _ => h
    | cons u m ih =>
      intro acc h hm
      refine ih _ (fun v hv => ?_) fun v hv => hm v (List.mem_cons_of_mem _ hv)
      unfold addV at hv
      split at hv
      · rename_i hc
        rcases List.mem_append.1 hv with hv | hv
        · exact h v hv
        · rw [List.mem_singleton] at hv; subst hv; exact ⟨hc.1, hm _ (List.mem_cons_self ..)⟩
      · exact h v hv
  exact key l [] (by simp) fun _ h => h
/-- Of unlike places: the table is told by what is in the list, in whichever order. -/
def Apart (l : List VtD) : Prop := l.Pairwise fun a b => ¬ (a.k = b.k ∧ a.w = b.w ∧ a.f = b.f)
theorem ofV_apart {l : List VtD} (h : Apart l) {v : VtD} (hv : v ∈ l) (hf : 0 ≤ v.f) : ofV l v.k v.w v.f.toNat = some v.x := by
  induction l with
  | nil => cases hv
  | cons u l ih =>
    obtain ⟨h1, h2⟩ := List.pairwise_cons.1 h
    simp only [ofV]
    rcases List.mem_cons.1 hv with rfl | hv
    · rw [if_pos ⟨rfl, rfl, by omega⟩]
    · rw [if_neg (fun hc => h1 v hv ⟨hc.1, hc.2.1, by omega⟩)]
      exact ih h2 hv
theorem votesOf_apart {n : Nat} {l : List VtD} (h : Apart l) : votesOf n l = l.filter fun v => decide (VtOk n v) := by
  have key : ∀ (m acc : List VtD), Apart (acc ++ m) → m.foldl (addV n) acc = acc ++ m.filter fun v => decide (VtOk n v) := by
    intro m
    induction m with
    | nil => intro acc _; simp
    | cons u m ih =>
      intro acc ha
      have hsplit := List.pairwise_append.1 ha
      simp only [List.foldl_cons]
      by_cases hu : VtOk n u
      · have hnone : ofV acc u.k u.w u.f.toNat = none := by
          cases hq : ofV acc u.k u.w u.f.toNat with
          | none => rfl
          | some x =>
            obtain ⟨v, hv, e1, e2, e3, _⟩ := ofV_mem hq
            exact absurd ⟨e1, e2, by rw [e3]; have := hu.2.2.1.1; omega⟩ (hsplit.2.2 v hv u (List.mem_cons_self ..))
        have e : addV n acc u = acc ++ [u] := if_pos ⟨hu, hnone⟩
        rw [e, ih _ (by simpa [Apart] using ha), List.filter_cons, if_pos (decide_eq_true hu)]
        simp
      · have e : addV n acc u = acc := if_neg fun hc => hu hc.1
        rw [e, ih acc (by
          refine List.pairwise_append.2 ⟨hsplit.1, (List.pairwise_cons.1 hsplit.2.1).2, fun a ha b hb => hsplit.2.2 a ha b (List.mem_cons_of_mem _ hb)⟩), List.filter_cons, if_neg (by simpa using hu)]
  have := key l [] (by simpa using h)
  simpa [votesOf] using this
theorem ofV_none {l : List VtD} {k w : Int} {i : Nat} (h : ∀ v ∈ l, ¬ (v.k = k ∧ v.w = w ∧ v.f = (i : Int))) : ofV l k w i = none := by
  cases hq : ofV l k w i with
  | none => rfl
  | some x => obtain ⟨v, hv, e1, e2, e3, _⟩ := ofV_mem hq; exact absurd ⟨e1, e2, e3⟩ (h v hv)
/-- In whichever order. -/
theorem votesOf_turns {n : Nat} {l : List VtD} (h : Apart l) : ofV (votesOf n l) = ofV (votesOf n l.reverse) := by
  have h' : Apart l.reverse := by
    unfold Apart at *
    rw [List.pairwise_reverse]
    exact h.imp fun hab hc => hab ⟨hc.1.symm, hc.2.1.symm, hc.2.2.symm⟩
  rw [votesOf_apart h, votesOf_apart h']
  have hf : ∀ {m : List VtD}, Apart m → Apart (m.filter fun v => decide (VtOk n v)) := fun hm => hm.filter _
  funext k w i
  cases hq : ofV (l.filter fun v => decide (VtOk n v)) k w i with
  | some x =>
    obtain ⟨v, hv, e1, e2, e3, e4⟩ := ofV_mem hq
    have hv2 : v ∈ l.reverse.filter fun v => decide (VtOk n v) := by simpa using hv
    have := ofV_apart (hf h') hv2 (by omega)
    rw [show v.f.toNat = i from by omega] at this
    rw [← e1, ← e2, ← e4]
    exact this.symm
  | none =>
    refine (ofV_none fun v hv hc => ?_).symm
    have hv2 : v ∈ l.filter fun v => decide (VtOk n v) := by simpa using hv
    have := ofV_apart (hf h) hv2 (by omega)
    rw [hc.1, hc.2.1, show v.f.toNat = i from by omega, hq] at this
    cases this
end Go.Proofs.Ytmhmkaginnddeaa
