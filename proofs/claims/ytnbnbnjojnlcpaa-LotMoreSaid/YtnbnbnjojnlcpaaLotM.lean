/- Draws with one more winner; how many win, in all. Plain mathematics. -/
import Derived.Test.YtnbnbnjojnlcpaaLotN
namespace Go.Proofs.Ytnbnbnjojnlcpaa
open Go.RowKit

/-- One more winner, n, at place i. -/
def mo (l : List Int) (i n : Nat) (d : Int) : List Int := l.set i (orb d n)
theorem mo_len (l : List Int) (i n : Nat) (d : Int) : (mo l i n d).length = l.length := by simp [mo]
theorem mo_ok {l : List Int} {i n : Nat} {d : Int} (h : DrOk l) (hi : i < l.length) (hd : l[i] = d) (hn : n < 7) : DrOk (mo l i n d) := by
  refine ⟨by rw [mo_len]; exact h.1, fun x hx => ?_⟩
  have hd2 := h.at hi
  rw [hd] at hd2
  rcases List.mem_or_eq_of_mem_set hx with hx | rfl
  · exact h.2 x hx
  · exact orb_ok hd2.1 hd2.2 hn
theorem mo_win {l : List Int} {i n j k : Nat} {d : Int} (h : DrOk l) (hi : i < l.length) (hd : l[i] = d) (hn : n < 7) (hj : j < l.length) (hk : k < 7) :
    win (mo l i n d) ((j : Int) + 1) (k : Int) = if j = i then (k == n || win l ((j : Int) + 1) (k : Int)) else win l ((j : Int) + 1) (k : Int) := by
  have hd2 := h.at hi
  rw [hd] at hd2
  rw [win_at (by rw [mo_len]; exact hj) hk, win_at hj hk]
  by_cases e : j = i
  · subst e
    rw [if_pos rfl]
    have e1 : (mo l j n d)[j]'(by rw [mo_len]; exact hj) = orb d n := by simp [mo]
    rw [e1, hd, orb_bit hd2.1 hd2.2 hn hk]
  · rw [if_neg e]
    have e1 : (mo l i n d)[j]'(by rw [mo_len]; exact hj) = l[j] := by simp only [mo]; rw [List.getElem_set_ne (fun x => e x.symm)]
    rw [e1]
/-- The same, of numbers as the program has them. -/
theorem mo_same {l : List Int} {i n : Nat} {d s k : Int} (h : DrOk l) (hi : i < l.length) (hd : l[i] = d) (hn : n < 7) (hs : 1 ≤ s) (hs2 : s ≤ l.length) (hk : 0 ≤ k) (hk2 : k < 7) (hne : ¬ (s = (i : Int) + 1 ∧ k = (n : Int))) : win (mo l i n d) s k = win l s k := by
  obtain ⟨j, rfl⟩ : ∃ j : Nat, s = (j : Int) + 1 := ⟨(s - 1).toNat, by omega⟩
  obtain ⟨m, rfl⟩ : ∃ m : Nat, k = (m : Int) := ⟨k.toNat, by omega⟩
  rw [mo_win h hi hd hn (by omega) (by omega)]
  by_cases e : j = i
  · subst e
    rw [if_pos rfl]
    have : (m == n) = false := by
      rw [beq_eq_false_iff_ne]; intro e; subst e; exact hne ⟨rfl, rfl⟩
    rw [this, Bool.false_or]
  · rw [if_neg e]
theorem mo_yes {l : List Int} {i n : Nat} {d : Int} (h : DrOk l) (hi : i < l.length) (hd : l[i] = d) (hn : n < 7) : win (mo l i n d) ((i : Int) + 1) (n : Int) = true := by
  rw [mo_win h hi hd hn hi hn, if_pos rfl, beq_self_eq_true, Bool.true_or]
/-- In a slot that is won by somebody else one more isn't alone. -/
theorem mo_single {l who : List Int} {i n : Nat} {d : Int} (h : DrOk l) (hi : i < l.length) (hd : l[i] = d) (hn : n < 7) {W : List Int} (hW : wns l ((i : Int) + 1) = W) (ho : 1 < W.length ∨ ∃ x, W = [x] ∧ x ≠ (n : Int)) : sgl (mo l i n d) who = false := by
  refine decide_eq_false fun hall => ?_
  have hg := (hall i (by rw [mo_len]; exact hi)).1
  have e : wns (mo l i n d) (((i + 1 : Nat)) : Int) = pk 0 (fun k => k == n || win l ((i : Int) + 1) (k : Int)) 7 := by
    unfold wns
    refine pk_congr fun k hk => ?_
    have := mo_win (l := l) (j := i) (k := k) h hi hd hn hi hk
    rw [if_pos rfl] at this
    exact this
  rw [e, pk_or] at hg
  have e2 : (pk 0 (fun k : Nat => win l ((i : Int) + 1) (k : Int)) 7) = W := hW
  rw [e2] at hg
  rcases ho with h1 | ⟨x, rfl, hx⟩
  · omega
  · have hno : win l ((i : Int) + 1) (n : Int) = false := by
      cases c : win l ((i : Int) + 1) (n : Int)
      · rfl
      · have : ((n + 0 : Nat) : Int) ∈ pk 0 (fun k : Nat => win l ((i : Int) + 1) (k : Int)) 7 := pk_mem.2 ⟨n, hn, c, rfl⟩
        rw [e2] at this
        simp only [List.mem_singleton] at this
        exact absurd this.symm hx
    rw [if_pos ⟨hn, hno⟩] at hg
    simp at hg

/-! ### All slots of all nodes -/
/-- The slots of the nodes below n, one node behind the other. -/
def allS (l : List Int) : Nat → List Int
  | 0 => []
  | n + 1 => allS l n ++ sls l (n : Int)
/-- How many win in the first k slots. -/
def tw (l : List Int) : Nat → Nat
  | 0 => 0
  | k + 1 => tw l k + (wns l ((k + 1 : Nat) : Int)).length
/-- How often the most frequent one of the first k slots comes. -/
def mx (D : List Int) : Nat → Nat
  | 0 => 0
  | k + 1 => max (mx D k) (D.count ((k + 1 : Nat) : Int))
theorem mx_le {D : List Int} : ∀ k, mx D k ≤ D.length
  | 0 => Nat.zero_le _
  | k + 1 => by
    have h1 := mx_le (D := D) k
    have h2 : D.count ((k + 1 : Nat) : Int) ≤ D.length := List.count_le_length
    rw [mx]; omega
theorem mx_one {D : List Int} : ∀ k, mx D k ≤ 1 ↔ ∀ i, i < k → D.count ((i + 1 : Nat) : Int) ≤ 1
  | 0 => by simp [mx]
  | k + 1 => by
    have ih := mx_one (D := D) k
    rw [mx]
    constructor
    · intro h i hi
      by_cases e : i < k
      · exact ih.1 (by omega) i e
      · obtain rfl : i = k := by omega
        omega
    · intro h
      have h1 := ih.2 fun i hi => h i (by omega)
      have h2 := h k (by omega)
      omega
theorem sls_mem {l : List Int} {n x : Int} (h : x ∈ sls l n) : 1 ≤ x ∧ x ≤ l.length ∧ win l x n = true := by
  obtain ⟨i, h1, h2, rfl⟩ := pk_mem.1 h
  refine ⟨by omega, by omega, h2⟩
theorem allS_mem {l : List Int} {x : Int} : ∀ {n : Nat}, x ∈ allS l n → 1 ≤ x ∧ x ≤ l.length
  | 0, h => by simp [allS] at h
  | n + 1, h => by
    rw [allS, List.mem_append] at h
    rcases h with h | h
    · exact allS_mem h
    · have := sls_mem h; exact ⟨this.1, this.2.1⟩
theorem sls_len (l : List Int) (n : Int) : (sls l n).length ≤ l.length := pk_len _
theorem allS_len (l : List Int) : ∀ n : Nat, (allS l n).length ≤ n * l.length
  | 0 => by simp [allS]
  | n + 1 => by
    have h1 := allS_len l n
    have h2 := sls_len l (n : Int)
    rw [allS, List.length_append, Nat.succ_mul]; omega
/-- How often a slot comes among the first n nodes' slots: how many of these win there. -/
theorem allS_count {l : List Int} {i : Nat} (hi : i < l.length) : ∀ n : Nat, (allS l n).count ((i + 1 : Nat) : Int) = (pk 0 (fun n : Nat => win l ((i + 1 : Nat) : Int) (n : Int)) n).length
  | 0 => by simp [allS, pk]
  | n + 1 => by
    rw [allS, List.count_append, allS_count hi n, pk_len_yes]
    have h := pk_count (c := 1) (p := fun i : Nat => win l ((i + 1 : Nat) : Int) (n : Int)) (i := i) l.length
    have h2 : (sls l (n : Int)).count ((i + 1 : Nat) : Int) = if i < l.length ∧ win l ((i + 1 : Nat) : Int) (n : Int) = true then 1 else 0 := h
    rw [h2]
    cases c : win l ((i + 1 : Nat) : Int) (n : Int) <;> simp [hi]
/-- Two ways of counting. -/
theorem twice (f : Nat → Nat → Bool) (k : Nat) : (List.range 7).foldl (fun a n => a + (pk 1 (fun i => f i n) k).length) 0 = (List.range k).foldl (fun a i => a + (pk 0 (fun n => f i n) 7).length) 0 := by
  induction k with
  | zero => rfl
  | succ k ih =>
    rw [List.range_succ (n := k), List.foldl_append, ← ih]
    have h7 : (pk 0 (fun n => f k n) 7).length = (if f k 0 then 1 else 0) + (if f k 1 then 1 else 0) + (if f k 2 then 1 else 0) + (if f k 3 then 1 else 0) + (if f k 4 then 1 else 0) + (if f k 5 then 1 else 0) + (if f k 6 then 1 else 0) := by
      simp only [pk_len_yes]
      simp only [pk, List.length_nil, Nat.zero_add]
    simp only [List.range, List.range.loop, List.foldl_cons, List.foldl_nil, pk_len_yes] at h7 ⊢
    omega
theorem tw_fold (l : List Int) : ∀ k, tw l k = (List.range k).foldl (fun a i => a + (wns l ((i + 1 : Nat) : Int)).length) 0
  | 0 => rfl
  | k + 1 => by rw [List.range_succ, List.foldl_append, ← tw_fold l k]; rfl
theorem allS_tw (l : List Int) : (allS l 7).length = tw l l.length := by
  rw [tw_fold, show (List.range l.length).foldl (fun a i => a + (wns l ((i + 1 : Nat) : Int)).length) 0 = (List.range l.length).foldl (fun a i => a + (pk 0 (fun n : Nat => win l ((i + 1 : Nat) : Int) (n : Int)) 7).length) 0 from rfl,
    ← twice (fun i n => win l ((i + 1 : Nat) : Int) (n : Int)) l.length]
  simp only [allS, List.length_append, List.length_nil, List.range, List.range.loop, List.foldl_cons, List.foldl_nil]
  rfl
/-- At most one in each slot: just if no slot comes twice. -/
theorem sgl_all {l A : List Int} (hA : A = [0, 1, 2, 3, 4, 5, 6]) : sgl l A = decide ((mx (allS l 7) l.length : Int) ≤ 1) := by
  unfold sgl
  refine decide_eq_decide.2 ?_
  have h1 : ((mx (allS l 7) l.length : Int) ≤ 1) ↔ mx (allS l 7) l.length ≤ 1 := by omega
  rw [h1, mx_one]
  refine forall_congr' fun i => forall_congr' fun hi => ?_
  rw [allS_count hi 7]
  constructor
  · exact fun h => h.1
  · refine fun h => ⟨h, fun x hx => ?_⟩
    obtain ⟨n, hn, _, rfl⟩ := pk_mem.1 hx
    rw [hA]
    rcases (show n = 0 ∨ n = 1 ∨ n = 2 ∨ n = 3 ∨ n = 4 ∨ n = 5 ∨ n = 6 by omega) with rfl | rfl | rfl | rfl | rfl | rfl | rfl <;> simp
theorem tw_le (l : List Int) : ∀ k, tw l k ≤ 7 * k
  | 0 => Nat.le_refl _
  | k + 1 => by
    have h1 := tw_le l k
    have h2 : (wns l ((k + 1 : Nat) : Int)).length ≤ 7 := pk_len 7
    rw [tw]; omega

/-- The counts of the numbers below 201, as cells. -/
def cnt (D : List Int) : List Value := (List.range 201).map fun i : Nat => .int .i64 ((D.count (i : Int) : Nat) : Int)
theorem cnt_len (D : List Int) : (cnt D).length = 201 := by simp [cnt]
theorem cnt_at (D : List Int) {i : Nat} (hi : i < 201) : (cnt D)[i]? = some (.int .i64 ((D.count (i : Int) : Nat) : Int)) := by
  simp [cnt, List.getElem?_range hi]
theorem cnt_nil : cnt [] = List.replicate 201 (.int .i64 0) := by
  refine List.ext_getElem? fun i => ?_
  by_cases hi : i < 201
  · rw [cnt_at _ hi, List.getElem?_replicate, if_pos hi]; rfl
  · rw [List.getElem?_eq_none (by rw [cnt_len]; omega), List.getElem?_eq_none (by rw [List.length_replicate]; omega)]
theorem cnt_add (D : List Int) {i : Nat} (hi : i < 201) : (cnt D).set i (.int .i64 (((D.count (i : Int) : Nat) : Int) + 1)) = cnt (D ++ [(i : Int)]) := by
  refine List.ext_getElem? fun j => ?_
  by_cases hj : j < 201
  · rw [List.getElem?_set, cnt_at _ hj, cnt_at _ hj, List.count_append]
    by_cases e : i = j
    · subst e
      rw [if_pos rfl, if_pos (by rw [cnt_len]; exact hi)]
      simp
    · rw [if_neg e]
      have : [(i : Int)].count (j : Int) = 0 := by rw [List.count_eq_zero]; simp; omega
      rw [this, Nat.add_zero]
  · rw [List.getElem?_eq_none (by rw [List.length_set, cnt_len]; omega), List.getElem?_eq_none (by rw [cnt_len]; omega)]
end Go.Proofs.Ytnbnbnjojnlcpaa
