/- The weights of a set of nodes, as a sum: what is in two sets, in none, in a greater one. No condition. -/
import Derived.Test.YthggokfnmpplmaaIntB
namespace Go.Proofs.Ythggokfnmpplmaa

/-- The weights of those below n that p picks. -/
def ws (t : List Int) (p : Nat → Bool) : Nat → Int
  | 0 => 0
  | n + 1 => ws t p n + if p n then t.getD n 0 else 0
def StOk (t : List Int) : Prop := 1 ≤ t.length ∧ t.length ≤ 7 ∧ ∀ x ∈ t, 1 ≤ x ∧ x ≤ 1000000
instance (t : List Int) : Decidable (StOk t) := by unfold StOk; exact inferInstance
def chk (t : List Int) : Nat := if StOk t then 0 else 31
def inn (who : List Int) (i : Nat) : Bool := who.any fun x => x == (i : Int)
def sumS (t who : List Int) : Int := ws t (inn who) t.length
def totS (t : List Int) : Int := ws t (fun _ => true) t.length
def most (t who : List Int) : Bool := decide (2 * totS t < 3 * sumS t who)
def some3 (t who : List Int) : Bool := decide (totS t < 3 * sumS t who)
def few (t who : List Int) : Bool := decide (3 * sumS t who < totS t)

theorem StOk.at {t : List Int} (h : StOk t) {i : Nat} (hi : i < t.length) : 1 ≤ t[i] ∧ t[i] ≤ 1000000 := h.2.2 _ (List.getElem_mem hi)
theorem getD_at (t : List Int) {i : Nat} (hi : i < t.length) : t.getD i 0 = t[i] := by simp [List.getD, List.getElem?_eq_getElem hi]
theorem StOk.nn {t : List Int} (h : StOk t) (i : Nat) : 0 ≤ t.getD i 0 ∧ t.getD i 0 ≤ 1000000 := by
  by_cases hi : i < t.length
  · rw [getD_at t hi]; have := h.at hi; omega
  · simp [List.getD, List.getElem?_eq_none (Nat.le_of_not_lt hi)]
theorem ws_le {t : List Int} (h : StOk t) (p : Nat → Bool) : ∀ n, 0 ≤ ws t p n ∧ ws t p n ≤ 1000000 * (n : Int)
  | 0 => by simp [ws]
  | n + 1 => by
    have := ws_le h p n
    have := h.nn n
    rw [ws]
    split <;> omega
theorem ws_bd {t : List Int} (h : StOk t) (p : Nat → Bool) {n : Nat} (hn : n ≤ t.length) : 0 ≤ ws t p n ∧ ws t p n ≤ 7000000 := by
  have h1 := ws_le h p n
  have h2 := h.2.1
  omega
theorem ws_congr {t : List Int} {p q : Nat → Bool} : ∀ n, (∀ i, i < n → p i = q i) → ws t p n = ws t q n
  | 0, _ => rfl
  | n + 1, h => by rw [ws, ws, ws_congr n (fun i hi => h i (by omega)), h n (by omega)]
theorem ws_mono {t : List Int} (ht : StOk t) {p q : Nat → Bool} : ∀ n, (∀ i, i < n → p i = true → q i = true) → ws t p n ≤ ws t q n
  | 0, _ => by simp [ws]
  | n + 1, h => by
    have h1 := ws_mono ht n (fun i hi => h i (by omega))
    have h2 := ht.nn n
    have h3 := h n (by omega)
    rw [ws, ws]
    cases hp : p n <;> cases hq : q n <;> simp_all <;> omega
theorem ws_two (t : List Int) (p q : Nat → Bool) : ∀ n, ws t p n + ws t q n = ws t (fun i => p i && q i) n + ws t (fun i => p i || q i) n
  | 0 => by simp [ws]
  | n + 1 => by
    have h1 := ws_two t p q n
    rw [ws, ws, ws, ws]
    cases hp : p n <;> cases hq : q n <;> simp <;> omega
theorem ws_rest (t : List Int) (p : Nat → Bool) : ∀ n, ws t p n + ws t (fun i => !p i) n = ws t (fun _ => true) n
  | 0 => by simp [ws]
  | n + 1 => by
    have h1 := ws_rest t p n
    rw [ws, ws, ws]
    cases hp : p n <;> simp <;> omega
theorem ws_more (t : List Int) (p : Nat → Bool) (j : Nat) (hj : p j = false) : ∀ n, j < n → ws t (fun i => p i || j == i) n = ws t p n + t.getD j 0
  | 0, h => by omega
  | n + 1, h => by
    rw [ws, ws]
    by_cases hn : j = n
    · subst hn
      rw [hj, ws_congr (q := p) j (fun i hi => by simp; omega)]
      simp
    · rw [ws_more t p j hj n (by omega)]
      have hb : (j == n) = false := by simpa using hn
      rw [hb, Bool.or_false]; split <;> omega

theorem inn_nil (i : Nat) : inn [] i = false := rfl
theorem inn_snoc (l : List Int) (x : Int) (i : Nat) : inn (l ++ [x]) i = (inn l i || x == (i : Int)) := by simp [inn]
theorem inn_app (l m : List Int) (i : Nat) : inn (l ++ m) i = (inn l i || inn m i) := by simp [inn]
theorem inn_step (l : List Int) (i : Nat) {k : Nat} (hk : k < l.length) : inn (l.take (k + 1)) i = (inn (l.take k) i || l[k] == (i : Int)) := by
  rw [List.take_succ_eq_append_getElem hk, inn_snoc]
theorem cast_beq (a b : Nat) : (((a : Int)) == (b : Int)) = (a == b) := by
  rw [Bool.eq_iff_iff, beq_iff_eq, beq_iff_eq]; omega
/-- One more, that isn't there. -/
theorem sum_out (t who : List Int) {k : Nat} (hk : k < who.length) (hx : who[k] < 0 ∨ (t.length : Int) ≤ who[k]) : ws t (inn (who.take (k + 1))) t.length = ws t (inn (who.take k)) t.length :=
  ws_congr _ fun i hi => by
    rw [inn_step who i hk]
    have : ¬ who[k] = (i : Int) := by omega
    simp [this]
/-- One more, that was there already. -/
theorem sum_old (t who : List Int) {k : Nat} (hk : k < who.length) (j : Nat) (hj : who[k] = (j : Int)) (ho : inn (who.take k) j = true) : ws t (inn (who.take (k + 1))) t.length = ws t (inn (who.take k)) t.length :=
  ws_congr _ fun i hi => by
    rw [inn_step who i hk, hj, cast_beq]
    by_cases h : j = i
    · subst h; simp [ho]
    · simp [h]
theorem sum_new (t who : List Int) {k : Nat} (hk : k < who.length) (j : Nat) (hj : who[k] = (j : Int)) (hlt : j < t.length) (ho : inn (who.take k) j = false) : ws t (inn (who.take (k + 1))) t.length = ws t (inn (who.take k)) t.length + t[j] := by
  rw [← getD_at t hlt, ← ws_more t _ j ho _ hlt]
  exact ws_congr _ fun i hi => by rw [inn_step who i hk, hj, cast_beq]

theorem sumS_bd {t : List Int} (h : StOk t) (who : List Int) : 0 ≤ sumS t who ∧ sumS t who ≤ 7000000 := ws_bd h _ (Nat.le_refl _)
theorem totS_bd {t : List Int} (h : StOk t) : 0 ≤ totS t ∧ totS t ≤ 7000000 := ws_bd h _ (Nat.le_refl _)
theorem tot_pos {t : List Int} (h : StOk t) : 0 < totS t := by
  have h1 := h.1
  have h2 := h.at (i := t.length - 1) (by omega)
  have h3 := ws_le h (fun _ => true) (t.length - 1)
  unfold totS
  obtain ⟨m, hm⟩ : ∃ m, t.length = m + 1 := ⟨t.length - 1, by omega⟩
  rw [hm, ws, if_pos rfl, getD_at t (by omega)]
  have h4 := h.at (i := m) (by omega)
  have h5 := ws_le h (fun _ => true) m
  omega
theorem sum_le_tot {t : List Int} (h : StOk t) (who : List Int) : sumS t who ≤ totS t := ws_mono h _ fun _ _ _ => rfl

/-- Those below n that p picks, as a set. -/
def picks (p : Nat → Bool) (n : Nat) : List Int := ((List.range n).filter p).map fun i : Nat => (i : Int)
theorem picks_succ (p : Nat → Bool) (n : Nat) : picks p (n + 1) = picks p n ++ if p n then [(n : Int)] else [] := by
  unfold picks
  rw [List.range_succ, List.filter_append, List.map_append]
  congr 1
  cases hp : p n <;> simp [hp]
theorem picks_len (p : Nat → Bool) (n : Nat) : (picks p n).length ≤ n := by
  unfold picks
  rw [List.length_map]
  exact Nat.le_trans (List.length_filter_le _ _) (by simp)
theorem picks_wf (p : Nat → Bool) (n : Nat) : ∀ x ∈ picks p n, 0 ≤ x ∧ x < n := by
  intro x hx
  simp only [picks, List.mem_map, List.mem_filter, List.mem_range] at hx
  obtain ⟨i, ⟨h1, _⟩, rfl⟩ := hx
  omega
theorem inn_picks (p : Nat → Bool) (n : Nat) {i : Nat} (hi : i < n) : inn (picks p n) i = p i := by
  cases hp : p i
  · unfold inn
    rw [List.any_eq_false]
    intro x hx
    simp only [picks, List.mem_map, List.mem_filter, List.mem_range] at hx
    obtain ⟨j, ⟨h1, h2⟩, rfl⟩ := hx
    simp only [beq_iff_eq]
    intro he
    obtain rfl : j = i := by omega
    rw [hp] at h2; cases h2
  · unfold inn
    rw [List.any_eq_true]
    refine ⟨(i : Int), ?_, by simp⟩
    simp only [picks, List.mem_map, List.mem_filter, List.mem_range]
    exact ⟨i, ⟨hi, hp⟩, rfl⟩
theorem sum_picks (t : List Int) (p : Nat → Bool) : sumS t (picks p t.length) = ws t p t.length := ws_congr _ fun _ hi => inn_picks p _ hi

/-- What is in two sets that are most is some, and not few. -/
theorem two_meet {t : List Int} (h : StOk t) (a b : List Int) (ha : most t a = true) (hb : most t b = true) :
    some3 t (picks (fun i => inn a i && inn b i) t.length) = true ∧ few t (picks (fun i => inn a i && inn b i) t.length) = false := by
  unfold most at ha hb
  unfold some3 few
  rw [sum_picks]
  have h1 := ws_two t (inn a) (inn b) t.length
  have h2 : ws t (fun i => inn a i || inn b i) t.length ≤ totS t := ws_mono h _ fun _ _ _ => rfl
  unfold sumS at ha hb
  simp only [decide_eq_true_eq] at ha hb
  exact ⟨decide_eq_true (by omega), decide_eq_false (by omega)⟩
/-- A set and all others are all. -/
theorem rest_sum (t who : List Int) : sumS t who + sumS t (picks (fun i => !inn who i) t.length) = totS t := by
  rw [sum_picks]; exact ws_rest t (inn who) t.length
theorem rest_few (t who : List Int) : most t (picks (fun i => !inn who i) t.length) = few t who := by
  have := rest_sum t who
  unfold most few
  exact decide_eq_decide.2 (by omega)
theorem most_some {t : List Int} (h : StOk t) (who : List Int) (hm : most t who = true) : some3 t who = true := by
  have := totS_bd h
  unfold most at hm
  unfold some3
  simp only [decide_eq_true_eq] at hm ⊢
  omega
theorem some_few (t who : List Int) (hm : some3 t who = true) : few t who = false := by
  unfold some3 at hm
  unfold few
  simp only [decide_eq_true_eq] at hm
  exact decide_eq_false (by omega)
theorem sum_same {t who other : List Int} (h : ∀ i, i < t.length → inn other i = inn who i) : sumS t other = sumS t who := ws_congr _ h
theorem sum_more {t : List Int} (h : StOk t) (who more : List Int) : sumS t who ≤ sumS t (who ++ more) := ws_mono h _ fun i _ hi => by rw [inn_app, hi]; rfl
end Go.Proofs.Ythggokfnmpplmaa
