/- Rising lists of numbers, as plain mathematics. No program. · The contracts of the library on slices.Sorted, Sort and Compact, laid over this program. · Numbers sorted, each once. · A list of numbers, once more. -/
import Derived.Test.YtdoeoncmhaihbaaFA
import Derived.Shelf.SlIterI.Nil
import Derived.Shelf.SortM.Plain
import Derived.Shelf.SortM.SortNone
import Derived.Shelf.SlicesG.CompactI
import Derived.Test.YtdoeoncmhaihbaaFD
namespace Go.Proofs.Ytdoeoncmhaihbaa
set_option maxRecDepth 100000

/-- A rising list with one more number, each once. -/
def ins : List Int → Int → List Int
  | [], n => [n]
  | x :: l, n => if n < x then n :: x :: l else if n = x then x :: l else x :: ins l n
theorem mem_ins : ∀ {l : List Int} {n x : Int}, x ∈ ins l n ↔ x = n ∨ x ∈ l
  | [], n, x => by simp [ins]
  | y :: l, n, x => by
    unfold ins
    split
    · simp
    · split
      · rename_i h; subst h; simp
      · simp only [List.mem_cons, mem_ins (l := l)]
        constructor
        · rintro (h | h | h) <;> simp [h]
        · rintro (h | h | h) <;> simp [h]
/-- Rising, each once. -/
def Rise (l : List Int) : Prop := l.Pairwise (· < ·)
theorem Rise.ins : ∀ {l : List Int} {n : Int}, Rise l → Rise (ins l n)
  | [], n, _ => by simp [Rise, Go.Proofs.Ytdoeoncmhaihbaa.ins]
  | y :: l, n, h => by
    unfold Rise at h
    obtain ⟨h1, h2⟩ := List.pairwise_cons.1 h
    unfold Go.Proofs.Ytdoeoncmhaihbaa.ins Rise
    split
    · rename_i hlt
      refine List.pairwise_cons.2 ⟨fun x hx => ?_, h⟩
      rcases List.mem_cons.1 hx with rfl | hx
      · exact hlt
      · have := h1 x hx; omega
    · split
      · exact h
      · refine List.pairwise_cons.2 ⟨fun x hx => ?_, Rise.ins (l := l) h2⟩
        rcases mem_ins.1 hx with rfl | hx
        · omega
        · exact h1 x hx
/-- Two rising lists of the same numbers are one. -/
theorem Rise.eq : ∀ {l m : List Int}, Rise l → Rise m → (∀ x, x ∈ l ↔ x ∈ m) → l = m
  | [], [], _, _, _ => rfl
  | [], y :: m, _, _, h => by have := (h y).2 (List.mem_cons_self ..); simp at this
  | x :: l, [], _, _, h => by have := (h x).1 (List.mem_cons_self ..); simp at this
  | x :: l, y :: m, h1, h2, h => by
    obtain ⟨a1, a2⟩ := List.pairwise_cons.1 h1
    obtain ⟨b1, b2⟩ := List.pairwise_cons.1 h2
    have hxy : x = y := by
      have hx := (h x).1 (List.mem_cons_self ..)
      have hy := (h y).2 (List.mem_cons_self ..)
      rcases List.mem_cons.1 hx with e | hx
      · exact e
      · rcases List.mem_cons.1 hy with e | hy
        · exact e.symm
        · have := b1 x hx; have := a1 y hy; omega
    subst hxy
    rw [Rise.eq (l := l) (m := m) a2 b2 fun z => ?_]
    constructor
    · intro hz
      have := (h z).1 (List.mem_cons_of_mem _ hz)
      rcases List.mem_cons.1 this with e | e
      · have := a1 z hz; omega
      · exact e
    · intro hz
      have := (h z).2 (List.mem_cons_of_mem _ hz)
      rcases List.mem_cons.1 this with e | e
      · have := b1 z hz; omega
      · exact e
/-- Many numbers, rising, each once. -/
def rise (l : List Int) : List Int := l.foldl ins []
theorem mem_foldl_ins : ∀ {l a : List Int} {x : Int}, x ∈ l.foldl ins a ↔ x ∈ a ∨ x ∈ l
  | [], a, x => by simp
  | y :: l, a, x => by
    rw [List.foldl_cons, mem_foldl_ins (l := l), mem_ins, List.mem_cons]
    constructor
    · rintro ((h | h) | h) <;> simp [h]
    · rintro (h | h | h) <;> simp [h]
theorem mem_rise {l : List Int} {x : Int} : x ∈ rise l ↔ x ∈ l := by rw [rise, mem_foldl_ins]; simp
theorem Rise.foldl : ∀ {l a : List Int}, Rise a → Rise (l.foldl Go.Proofs.Ytdoeoncmhaihbaa.ins a)
  | [], _, h => h
  | _ :: l, _, h => Rise.foldl (l := l) h.ins
theorem rise_rise (l : List Int) : Rise (rise l) := Rise.foldl List.Pairwise.nil
theorem ins_len : ∀ {l : List Int} {n : Int}, n ∉ l → (ins l n).length = l.length + 1
  | [], n, _ => rfl
  | y :: l, n, h => by
    have h1 : n ≠ y := fun e => h (e ▸ List.mem_cons_self ..)
    have h2 : n ∉ l := fun e => h (List.mem_cons_of_mem _ e)
    unfold ins
    split
    · rfl
    · first | rw [if_neg h1] | skip
      simp [ins_len h2]
theorem foldl_ins_len : ∀ {l a : List Int}, (∀ x ∈ l, x ∉ a) → l.Nodup → (l.foldl ins a).length = a.length + l.length
  | [], a, _, _ => rfl
  | y :: l, a, h, hn => by
    obtain ⟨h1, h2⟩ := List.nodup_cons.1 hn
    rw [List.foldl_cons, foldl_ins_len (l := l) (fun x hx hm => ?_) h2, ins_len (h y (List.mem_cons_self ..)), List.length_cons]
    · omega
    · rcases mem_ins.1 hm with rfl | hm
      · exact h1 hx
      · exact h x (List.mem_cons_of_mem _ hx) hm
theorem rise_len {l : List Int} (h : l.Nodup) : (rise l).length = l.length := by
  have := foldl_ins_len (l := l) (a := []) (by simp) h
  simpa [rise] using this
end Go.Proofs.Ytdoeoncmhaihbaa
namespace Go.Proofs.Ytdoeoncmhaihbaa
set_option maxRecDepth 100000
open Go.RowKit Go.Shelf

end Go.Proofs.Ytdoeoncmhaihbaa
namespace Go.Proofs.Ytdoeoncmhaihbaa
set_option maxRecDepth 100000
open Go.RowKit Go.Sort Go.Lib

theorem compact_up (d : Array Int) (hs : ∀ i j, i ≤ j → j < d.size → d[i]! ≤ d[j]!) : ∀ m, m ≤ d.size → Rise (compactUpTo d m) ∧ ∀ x, x ∈ compactUpTo d m ↔ ∃ j, j < m ∧ d[j]! = x
  | 0, _ => by
    refine ⟨by simp [compactUpTo]; exact List.Pairwise.nil, fun x => by simp [compactUpTo]⟩
  | m + 1, hm => by
    obtain ⟨h1, h2⟩ := compact_up d hs m (by omega)
    rw [compactUpTo_succ]
    by_cases hk : keeps d m = true
    · rw [if_pos hk]
      have hk' : m = 0 ∨ d[m]! ≠ d[m - 1]! := by simpa [keeps] using hk
      refine ⟨?_, fun x => ?_⟩
      · unfold Rise at h1 ⊢
        rw [List.pairwise_append]
        refine ⟨h1, List.pairwise_singleton _ _, fun a ha b hb => ?_⟩
        obtain ⟨j, hj, rfl⟩ := (h2 a).1 ha
        simp at hb; subst hb
        have e1 := hs j (m - 1) (by omega) (by omega)
        have e2 := hs (m - 1) m (by omega) (by omega)
        rcases hk' with e | e
        · omega
        · omega
      · rw [List.mem_append, h2]
        constructor
        · rintro (⟨j, hj, rfl⟩ | hx)
          · exact ⟨j, by omega, rfl⟩
          · simp at hx; exact ⟨m, by omega, hx.symm⟩
        · rintro ⟨j, hj, rfl⟩
          by_cases hjm : j < m
          · exact .inl ⟨j, hjm, rfl⟩
          · obtain rfl : j = m := by omega
            exact .inr (by simp)
    · rw [if_neg hk, List.append_nil]
      refine ⟨h1, fun x => ?_⟩
      rw [h2]
      have hk' : ¬ m = 0 ∧ d[m]! = d[m - 1]! := by simpa [keeps] using hk
      constructor
      · rintro ⟨j, hj, rfl⟩; exact ⟨j, by omega, rfl⟩
      · rintro ⟨j, hj, rfl⟩
        by_cases hjm : j < m
        · exact ⟨j, hjm, rfl⟩
        · obtain rfl : j = m := by omega
          exact ⟨j - 1, by omega, hk'.2.symm⟩
theorem sort_le (l : List Int) : (l.mergeSort fun x y => decide (x ≤ y)).Pairwise (· ≤ ·) := by
  have := List.pairwise_mergeSort (le := fun x y : Int => decide (x ≤ y)) (fun a b c => by simp; omega) (fun a b => by simp; omega) l
  exact this.imp fun h => by simpa using h
theorem compact_sort (l : List Int) : compact (l.mergeSort fun x y => decide (x ≤ y)) = rise l := by
  have hp := List.mergeSort_perm l fun x y : Int => decide (x ≤ y)
  obtain ⟨h1, h2⟩ := compact_up (l.mergeSort fun x y => decide (x ≤ y)).toArray (fun i j hij hj => by
    have hj' : j < (l.mergeSort fun x y => decide (x ≤ y)).length := by simpa using hj
    rw [getElem!_pos _ i (by simp at hj ⊢; omega), getElem!_pos _ j hj]
    rcases Nat.lt_or_eq_of_le hij with h | h
    · exact List.pairwise_iff_getElem.1 (sort_le l) i j (by omega) hj' h
    · subst h; exact Int.le_refl _) _ (Nat.le_refl _)
  refine Rise.eq (by simpa [compact] using h1) (rise_rise l) fun x => ?_
  rw [mem_rise, ← hp.mem_iff]
  have := h2 x
  simp only [List.size_toArray] at this
  unfold compact
  rw [this]
  constructor
  · rintro ⟨j, hj, rfl⟩
    rw [getElem!_pos _ j (by simpa using hj)]
    exact List.getElem_mem _
  · intro hx
    obtain ⟨j, hj, rfl⟩ := List.getElem_of_mem hx
    exact ⟨j, hj, by rw [getElem!_pos _ j (by simpa using hj)]; rfl⟩
theorem sort_rise {l : List Int} (hn : l.Nodup) : (l.mergeSort fun x y => decide (x ≤ y)) = rise l := by
  have hp := List.mergeSort_perm l fun x y : Int => decide (x ≤ y)
  refine Rise.eq ?_ (rise_rise l) fun x => by rw [mem_rise, hp.mem_iff]
  unfold Rise
  have h1 := sort_le l
  have h2 := hp.nodup_iff.2 hn
  exact (h1.and h2).imp fun h => by omega
theorem rise_perm {l m : List Int} (h : l.Perm m) : rise l = rise m := Rise.eq (rise_rise l) (rise_rise m) fun x => by rw [mem_rise, mem_rise, h.mem_iff]

theorem OwnI.split {base : Nat} {w : World} {v : Value} {l : List Int} (h : OwnI base w v l) : (v = .slice none 0 0 ∧ l = []) ∨ ∃ g cap cur, v = .slice (some ⟨g, 0, none⟩) l.length cap ∧ base ≤ g ∧ w.heap[g]? = some (.cells cur 3 (0, 0)) ∧ l.length ≤ cap ∧ cap ≤ maxLen ∧ cur.size = cap * 1 ∧ cur.toList.take l.length = l.map encZ := by
  unfold OwnI at h
  obtain ⟨h0, hn | ⟨g, cap, cur, hv, hb, hh, r1, r2, r3, r4⟩⟩ := h
  · obtain ⟨h1, h2⟩ := hn
    refine .inl ⟨h1, ?_⟩
    rw [i64s_length] at h2
    exact List.eq_nil_of_length_eq_zero h2
  · rw [i64s_length] at hv r1
    refine .inr ⟨g, cap, cur, hv, hb, hh, r1, r2, r3, ?_⟩
    rw [i64s_length, Nat.mul_one] at r4
    exact r4
theorem OwnI.of_row {base : Nat} {w : World} {v : Value} {l : List Int} (h : w.ownsRow base 3 1 v l.length (l.map encZ)) : OwnI base w v l := by
  unfold OwnI; rw [i64s_length]; exact h
theorem mod_sorted {w : World} {g n : Nat} {os : Array Obj} (d : Array Int) : Mod (fun k => k = g) w (Go.Sort.grow (putRow encZ (Sort.ahead w n) g 0 d) os) := by
  have h := grownBy_sorted_i (w := w) (g := g) (n := n) (os := os) d
  exact ⟨h.os, h.tape, h.output, h.size, fun k hk hn => h.block k hk fun e => hn (Option.some.inj e)⟩

end Go.Proofs.Ytdoeoncmhaihbaa
namespace Go.Proofs.Ytdoeoncmhaihbaa
set_option maxRecDepth 100000
open Go.RowKit

theorem runs_extract {P : Program} {o : Oper} {ρ : Operand → Value} {w : World} {x : Operand} {i : Nat} {vs : Array Value} {u : Value} (ho : o.op = .extract x i) (hx : ρ x = .tuple vs) (hi : vs[i]? = some u) : Runs P o ρ w u := by
  unfold Runs execOp
  simp [ho, hx, Instr.extract, hi]
set_option maxRecDepth 100000 in
set_option maxHeartbeats 1600000 in
theorem IClone_any {w : World} {v : Value} {l : List Int} (h0 : Ints w v l) (hlen : l.length * 8 ≤ 140737488355328) :
    Calls Try.prog 26 #[v] w fun e w' => ∃ v', e = .returned v' ∧ OwnI w.heap.size w' v' l ∧ Ext w w' := by
  refine calls_keep ?_
  have hr := hide_ h0
  have hbig := hide_ (show (([] : List Int).length + l.length) * 8 ≤ 140737488355328 from by simp; omega)
  clear h0 hlen
  go_enter Try.func26, Try.ntmps26
  go_wp2_with ((first
    | ((with_reducible refine at_bin ?_); refine w_isnil Try.elI _ _ _ rfl rfl rfl hr.out ?_; intro b hb; cases b)
    | ((with_reducible refine at_lit ?_); refine w_new Try.elI (i64s []) rfl rfl rfl (i64s_cells _) rfl (by omega) ?_; intro v5 w5 hX o5; replace o5 : OwnI _ w5 v5 [] := o5)
    | ((with_reducible refine at_bi ?_); refine appi _ _ rfl rfl rfl rfl o5 (hr.out.ext hX) hbig.out hX.size ?_; intro v9 w9 o9 hb9 hg9 hg9'; rw [List.nil_append] at o9; replace hX := hX.trans' hb9; clear hb9 hg9 hg9' o5)
    | fail) <;> (try simp only [Act.put, List.setIfInBounds_toArray, List.set_cons_zero, List.set_cons_succ]))
  · go_ret
    exact Keep.intro ⟨v9, rfl, o9, hX⟩
  · obtain rfl : l = [] := List.map_eq_nil_iff.1 (hb trivial).1
    go_ret
    exact Keep.intro ⟨_, rfl, OwnI.nil _ _, Ext.refl _⟩
end Go.Proofs.Ytdoeoncmhaihbaa
