/- The view in which enough are already. -/
import Derived.Test.YtmhmkaginnddeaaTlE2
namespace Go.Proofs.Ytmhmkaginnddeaa
set_option maxRecDepth 100000
open Go.RowKit

/-! ### Mathematics -/
/-- Who has voted in one of the first k of these views. -/
def inV (T : Tab) (U : List Int) (k i : Nat) : Bool := decide (∃ j : Nat, j < k ∧ (T 4 (U.getD j 0) i ≠ none ∨ T 5 (U.getD j 0) i ≠ none))
theorem inV_succ (T : Tab) (U : List Int) (k i : Nat) : inV T U (k + 1) i = (inV T U k i || (T.any 4 (U.getD k 0) i || T.any 5 (U.getD k 0) i)) := by
  rw [Bool.eq_iff_iff, Bool.or_eq_true, Bool.or_eq_true]
  unfold inV Tab.any
  rw [decide_eq_true_iff, decide_eq_true_iff]
  have hs : ∀ {x : Option Int}, x.isSome = true ↔ x ≠ none := fun {x} => by cases x <;> simp
  rw [hs, hs]
  constructor
  · rintro ⟨j, hj, h⟩
    by_cases hjk : j < k
    · exact .inl ⟨j, hjk, h⟩
    · obtain rfl : j = k := by omega
      exact .inr h
  · rintro (⟨j, hj, h⟩ | h)
    · exact ⟨j, by omega, h⟩
    · exact ⟨k, by omega, h⟩
theorem some3_congr {t : List Int} {p q : Nat → Bool} (h : ∀ i, i < t.length → p i = q i) : some3 t (picks p t.length) = some3 t (picks q t.length) := by
  unfold some3
  rw [sum_picks, sum_picks, ws_congr t.length h]
/-- Who has voted in a view or in a greater one, by the views that have come. -/
theorem from_inV {T : Tab} {t : List Int} (_hT : TabOk T t.length) {N : Nat} {V : List Int} (hV : Vws T N V) {view : Int} {k : Nat} (hk : k ≤ (ups V view).length) {w : Int} (hw : view < w) (hle : ∀ j, j < k → w ≤ (ups V view).getD j 0) (hgt : ∀ j, k ≤ j → j < (ups V view).length → (ups V view).getD j 0 < w) (i : Nat) :
    T.from' w i = inV T (ups V view) k i := by
  rw [Bool.eq_iff_iff]
  unfold Tab.from' inV
  rw [decide_eq_true_iff, decide_eq_true_iff]
  constructor
  · rintro ⟨v, h1, h2, h3⟩
    have hm : (v : Int) ∈ ups V view := mem_ups.2 ⟨by rcases h3 with h3 | h3 <;> exact hV.all _ _ _ h3, by omega⟩
    obtain ⟨j, hj, he⟩ := List.getElem_of_mem hm
    refine ⟨j, ?_, by rw [getD_at _ hj, he]; exact h3⟩
    rcases Nat.lt_or_ge j k with h | h
    · exact h
    · have := hgt j h hj
      rw [getD_at _ hj, he] at this
      omega
  · rintro ⟨j, hj, h3⟩
    have hjl : j < (ups V view).length := by omega
    have hm := mem_ups.1 (List.getElem_mem hjl)
    have hf := hV.fit _ hm.1
    have h1 := hle j hj
    rw [getD_at _ hjl] at h1 h3
    refine ⟨((ups V view)[j]).toNat, by omega, by omega, ?_⟩
    rw [show (((ups V view)[j]).toNat : Int) = (ups V view)[j] from by omega]
    exact h3
/-- Behind the k-th view enough have voted, and not before: that is it. -/
theorem ahead_yes {T : Tab} {t : List Int} (hT : TabOk T t.length) (ht : StOk t) {N : Nat} {V : List Int} (hV : Vws T N V) {view : Int} {k : Nat} (hk : k < (ups V view).length) (hno : k = 0 ∨ some3 t (picks (inV T (ups V view) k) t.length) = false) (hyes : some3 t (picks (inV T (ups V view) (k + 1)) t.length) = true) :
    T.aheadOf t view = (ups V view).getD k 0 := by
  have hm := mem_ups.1 (List.getElem_mem hk)
  have hf := hV.fit _ hm.1
  have hg : (ups V view).getD k 0 = (ups V view)[k] := getD_at _ hk
  obtain ⟨n, hn⟩ : ∃ n : Nat, (ups V view).getD k 0 = (n : Int) := ⟨((ups V view).getD k 0).toNat, by rw [hg]; omega⟩
  rw [hn]
  have hrise := fun {i j : Nat} => ups_rise hV.rise (view := view) (i := i) (j := j)
  refine Tab.aheadOf_is (by omega) (by omega) ?_ fun j hj hlt => ?_
  · show some3 t (picks (T.from' n) t.length) = true
    rw [← hyes]
    exact some3_congr fun i _ => from_inV hT hV (k := k + 1) (by omega) (by omega) (fun j hj => by
      rw [← hn]
      rcases Nat.lt_or_eq_of_le (show j ≤ k by omega) with h | h
      · have := hrise h hk; omega
      · rw [h]; omega) (fun j h1 h2 => by rw [← hn]; exact hrise (by omega) h2) i
  · intro ha
    have ha' : some3 t (picks (T.from' j) t.length) = true := ha
    -- those in views from j on are among those of the first k
    have hsub : some3 t (picks (inV T (ups V view) k) t.length) = true := Tab.some_mono ht (fun i hi hp => by
      unfold Tab.from' at hp
      obtain ⟨v, h1, h2, h3⟩ := of_decide_eq_true hp
      have hm : (v : Int) ∈ ups V view := mem_ups.2 ⟨by rcases h3 with h3 | h3 <;> exact hV.all _ _ _ h3, by omega⟩
      obtain ⟨a, haa, he⟩ := List.getElem_of_mem hm
      refine decide_eq_true ⟨a, ?_, by rw [getD_at _ haa, he]; exact h3⟩
      rcases Nat.lt_or_ge a k with h | h
      · exact h
      · exfalso
        have hav : (ups V view).getD a 0 = (v : Int) := by rw [getD_at _ haa, he]
        rcases Nat.lt_or_eq_of_le h with h | h
        · have := hrise h haa; omega
        · subst h; omega) ha'
    rcases hno with rfl | hno
    · have h0 : picks (inV T (ups V view) 0) t.length = [] := List.eq_nil_iff_forall_not_mem.2 fun x hx => by
        obtain ⟨i, _, hp, _⟩ := mem_picks.1 hx
        obtain ⟨j, hj, _⟩ := of_decide_eq_true hp
        omega
      rw [h0] at hsub
      have := tot_pos ht
      unfold some3 sumS at hsub
      have hz : ws t (inn []) t.length = 0 := by
        have : ∀ n, ws t (inn []) n = 0 := fun n => by
          induction n with
          | zero => rfl
          | succ n ih => rw [ws, ih, inn_nil]; simp
        exact this _
      rw [hz] at hsub
      simp only [decide_eq_true_eq] at hsub
      omega
    · rw [hno] at hsub; cases hsub
/-- Behind all of them too few have voted. -/
theorem ahead_no {T : Tab} {t : List Int} (ht : StOk t) {N : Nat} {V : List Int} (hV : Vws T N V) {view : Int} (hno : (ups V view).length = 0 ∨ some3 t (picks (inV T (ups V view) (ups V view).length) t.length) = false) : T.aheadOf t view = view := by
  refine Tab.aheadOf_self fun j hj hlt ha => ?_
  have ha' : some3 t (picks (T.from' j) t.length) = true := ha
  have hsub : some3 t (picks (inV T (ups V view) (ups V view).length) t.length) = true := Tab.some_mono ht (fun i hi hp => by
    unfold Tab.from' at hp
    obtain ⟨v, h1, h2, h3⟩ := of_decide_eq_true hp
    have hm : (v : Int) ∈ ups V view := mem_ups.2 ⟨by rcases h3 with h3 | h3 <;> exact hV.all _ _ _ h3, by omega⟩
    obtain ⟨a, haa, he⟩ := List.getElem_of_mem hm
    exact decide_eq_true ⟨a, haa, by rw [getD_at _ haa, he]; exact h3⟩) ha'
  rcases hno with h0 | hno
  · have hz : (ups V view) = [] := List.eq_nil_of_length_eq_zero h0
    rw [hz] at hsub
    have h0 : picks (inV T [] 0) t.length = [] := List.eq_nil_iff_forall_not_mem.2 fun x hx => by
      obtain ⟨i, _, hp, _⟩ := mem_picks.1 hx
      obtain ⟨j, hj, _⟩ := of_decide_eq_true hp
      omega
    rw [show ([] : List Int).length = 0 from rfl, h0] at hsub
    have := tot_pos ht
    unfold some3 sumS at hsub
    have hz : ws t (inn []) t.length = 0 := by
      have : ∀ n, ws t (inn []) n = 0 := fun n => by
        induction n with
        | zero => rfl
        | succ n ih => rw [ws, ih, inn_nil]; simp
      exact this _
    rw [hz] at hsub
    simp only [decide_eq_true_eq] at hsub
    omega
  · rw [hno] at hsub; cases hsub
end Go.Proofs.Ytmhmkaginnddeaa
