/- Rising lists of numbers, as plain mathematics. No program. · The contracts of the library on slices.Sorted, Sort and Compact, laid over this program. · Numbers sorted, each once. · A list of numbers, once more. · Maps as they stand in memory. · Maps by kind and view, maps by node; the object that is a tally: what it holds. · The contracts of package view: Leader, Patience, Set, Tick, of any numbers. Condition: for Set and Tick a timer that lies in one cell. · A core in memory: its cells, its maps, its tally, its decisions; what is done in one call beside it. Steps at structs that lie within others. · Operations of a phase in few words: what a walk's text says of each, by defaults. · A new tally; whether one can vote so; what a node voted; one more vote. -/
import Derived.Test.YtajkjiegcmpjaaaGreatFA
import Derived.Shelf.SlIterI.Nil
import Derived.Shelf.SortM.Plain
import Derived.Shelf.SortM.SortNone
import Derived.Shelf.SlicesG.CompactI
import Derived.Test.YtajkjiegcmpjaaaGreatPk03
import Derived.Test.YtajkjiegcmpjaaaGreatFB
import Derived.Maps.RangeWalk
import Derived.Maps.OwnSet
import Derived.Test.YtajkjiegcmpjaaaGreatSTK
import Derived.Test.YtajkjiegcmpjaaaGreatPk08
import Derived.DeepKeys3
import Derived.Test.YtajkjiegcmpjaaaGreatPk06
namespace Go.Proofs.YtajkjiegcmpjaaaGreat
set_option maxRecDepth 100000
def ins : List Int → Int → List Int
  | [], n => [n]
  | x :: l, n => if n < x then n :: x :: l else if n = x then x :: l else x :: ins l n
theorem mem_ins : ∀ {l : List Int} {n x : Int}, x ∈ ins l n ↔ x = n ∨ x ∈ l
  | [], n, x => by simp [ins]
  | y :: l, n, x => by
    unfold ins
    split
    · simp
    · split
      · rename_i h; subst h; simp
      · simp only [List.mem_cons, mem_ins (l := l)]
        constructor
        · rintro (h | h | h) <;> simp [h]
        · rintro (h | h | h) <;> simp [h]
def Rise (l : List Int) : Prop := l.Pairwise (· < ·)
theorem Rise.ins : ∀ {l : List Int} {n : Int}, Rise l → Rise (ins l n)
  | [], n, _ => by simp [Rise, Go.Proofs.YtajkjiegcmpjaaaGreat.ins]
  | y :: l, n, h => by
    unfold Rise at h
    obtain ⟨h1, h2⟩ := List.pairwise_cons.1 h
    unfold Go.Proofs.YtajkjiegcmpjaaaGreat.ins Rise
    split
    · rename_i hlt
      refine List.pairwise_cons.2 ⟨fun x hx => ?_, h⟩
      rcases List.mem_cons.1 hx with rfl | hx
      · exact hlt
      · have := h1 x hx; omega
    · split
      · exact h
      · refine List.pairwise_cons.2 ⟨fun x hx => ?_, Rise.ins (l := l) h2⟩
        rcases mem_ins.1 hx with rfl | hx
        · omega
        · exact h1 x hx
theorem Rise.eq : ∀ {l m : List Int}, Rise l → Rise m → (∀ x, x ∈ l ↔ x ∈ m) → l = m
  | [], [], _, _, _ => rfl
  | [], y :: m, _, _, h => by have := (h y).2 (List.mem_cons_self ..); simp at this
  | x :: l, [], _, _, h => by have := (h x).1 (List.mem_cons_self ..); simp at this
  | x :: l, y :: m, h1, h2, h => by
    obtain ⟨a1, a2⟩ := List.pairwise_cons.1 h1
    obtain ⟨b1, b2⟩ := List.pairwise_cons.1 h2
    have hxy : x = y := by
      have hx := (h x).1 (List.mem_cons_self ..)
      have hy := (h y).2 (List.mem_cons_self ..)
      rcases List.mem_cons.1 hx with e | hx
      · exact e
      · rcases List.mem_cons.1 hy with e | hy
        · exact e.symm
        · have := b1 x hx; have := a1 y hy; omega
    subst hxy
    rw [Rise.eq (l := l) (m := m) a2 b2 fun z => ?_]
    constructor
    · intro hz
      have := (h z).1 (List.mem_cons_of_mem _ hz)
      rcases List.mem_cons.1 this with e | e
      · have := a1 z hz; omega
      · exact e
    · intro hz
      have := (h z).2 (List.mem_cons_of_mem _ hz)
      rcases List.mem_cons.1 this with e | e
      · have := b1 z hz; omega
      · exact e
def rise (l : List Int) : List Int := l.foldl ins []
theorem mem_foldl_ins : ∀ {l a : List Int} {x : Int}, x ∈ l.foldl ins a ↔ x ∈ a ∨ x ∈ l
  | [], a, x => by simp
  | y :: l, a, x => by
    rw [List.foldl_cons, mem_foldl_ins (l := l), mem_ins, List.mem_cons]
    constructor
    · rintro ((h | h) | h) <;> simp [h]
    · rintro (h | h | h) <;> simp [h]
theorem mem_rise {l : List Int} {x : Int} : x ∈ rise l ↔ x ∈ l := by rw [rise, mem_foldl_ins]; simp
theorem Rise.foldl : ∀ {l a : List Int}, Rise a → Rise (l.foldl Go.Proofs.YtajkjiegcmpjaaaGreat.ins a)
  | [], _, h => h
  | _ :: l, _, h => Rise.foldl (l := l) h.ins
theorem rise_rise (l : List Int) : Rise (rise l) := Rise.foldl List.Pairwise.nil
end Go.Proofs.YtajkjiegcmpjaaaGreat
namespace Go.Proofs.YtajkjiegcmpjaaaGreat
set_option maxRecDepth 100000
open Go.RowKit Go.Shelf
def Tryz.sortedL_ren : Go.Shelf.Ren := ⟨fun | 6 => 79 | 8 => 95 | 9 => 91 | 11 => 107 | 13 => 106 | 12 => 105 | 23 => 119 | 24 => 120 | 14 => 110 | 15 => 111 | 16 => 112 | 17 => 113 | 18 => 114 | 19 => 115 | 20 => 116 | 21 => 117 | 22 => 118 | 25 => 121 | 26 => 122 | 27 => 123 | 28 => 124 | 29 => 125 | 30 => 126 | 31 => 127 | n => n, fun | 26 => 3 | 28 => 127 | 24 => 22 | 0 => 0 | 3 => 3 | 37 => 150 | 48 => 162 | 50 => 137 | 4 => 4 | 40 => 156 | 39 => 155 | 45 => 92 | 5 => 5 | 9 => 9 | 51 => 164 | 55 => 168 | 57 => 170 | 58 => 64 | 33 => 79 | n => n, fun | n => n⟩
theorem Tryz.sortedL : Go.Proofs.SlLaysZI.n6 Tryz.prog Tryz.sortedL_ren := {
  mixed := by kernel_rfl,
  f6 := ⟨Tryz.f79.name, by decide, Tryz.func79.trans (congrArg some (by kernel_rfl))⟩,
  f8 := ⟨Tryz.f95.name, by decide, Tryz.func95.trans (congrArg some (by kernel_rfl))⟩,
  f11 := ⟨Tryz.f107.name, by decide, Tryz.func107.trans (congrArg some (by kernel_rfl))⟩,
  t0 := Tryz.underlying0,
  a0 := Tryz.isAgg0,
  z0 := Tryz.sizeOf0,
  v0 := Tryz.zeroValue0,
  t24 := Tryz.underlying22,
  a24 := Tryz.isAgg22,
  z24 := Tryz.sizeOf22,
  v24 := Tryz.zeroValue22,
  t26 := Tryz.underlying3,
  a26 := Tryz.isAgg3,
  z26 := Tryz.sizeOf3,
  v26 := Tryz.zeroValue3,
  t28 := Tryz.underlying127,
  a28 := Tryz.isAgg127,
  z28 := Tryz.sizeOf127,
  v28 := Tryz.zeroValue127,
  i26 := by kernel_rfl }
def Tryz.sortL_ren : Go.Shelf.Ren := ⟨fun | 5 => 91 | 8 => 106 | 7 => 105 | 19 => 119 | 20 => 120 | 10 => 110 | 11 => 111 | 12 => 112 | 13 => 113 | 14 => 114 | 15 => 115 | 16 => 116 | 17 => 117 | 18 => 118 | 30 => 121 | 31 => 122 | 32 => 123 | 33 => 124 | 34 => 125 | 35 => 126 | 40 => 127 | n => n, fun | 23 => 22 | 25 => 3 | 3 => 3 | 32 => 150 | 22 => 22 | 0 => 0 | 44 => 162 | 46 => 137 | 4 => 4 | 36 => 156 | 35 => 155 | 41 => 92 | 5 => 5 | 9 => 9 | 53 => 164 | 57 => 168 | 63 => 170 | 64 => 64 | n => n, fun | n => n⟩
theorem Tryz.sortL : Go.Proofs.SlLaysM.n5 Tryz.prog Tryz.sortL_ren := {
  mixed := by kernel_rfl,
  f5 := ⟨Tryz.f91.name, by decide, Tryz.func91.trans (congrArg some (by kernel_rfl))⟩,
  f7 := ⟨Tryz.f105.name, by decide, Tryz.func105.trans (congrArg some (by kernel_rfl))⟩,
  f8 := Tryz.func106.trans (congrArg some (by kernel_rfl)),
  f10 := ⟨Tryz.f110.name, by decide, Tryz.func110.trans (congrArg some (by kernel_rfl))⟩,
  f11 := ⟨Tryz.f111.name, by decide, Tryz.func111.trans (congrArg some (by kernel_rfl))⟩,
  f12 := ⟨Tryz.f112.name, by decide, Tryz.func112.trans (congrArg some (by kernel_rfl))⟩,
  f13 := ⟨Tryz.f113.name, by decide, Tryz.func113.trans (congrArg some (by kernel_rfl))⟩,
  f14 := ⟨Tryz.f114.name, by decide, Tryz.func114.trans (congrArg some (by kernel_rfl))⟩,
  f15 := ⟨Tryz.f115.name, by decide, Tryz.func115.trans (congrArg some (by kernel_rfl))⟩,
  f16 := ⟨Tryz.f116.name, by decide, Tryz.func116.trans (congrArg some (by kernel_rfl))⟩,
  f17 := ⟨Tryz.f117.name, by decide, Tryz.func117.trans (congrArg some (by kernel_rfl))⟩,
  f18 := ⟨Tryz.f118.name, by decide, Tryz.func118.trans (congrArg some (by kernel_rfl))⟩,
  f19 := Tryz.func119.trans (congrArg some (by kernel_rfl)),
  f20 := Tryz.func120.trans (congrArg some (by kernel_rfl)),
  f30 := ⟨Tryz.f121.name, by decide, Tryz.func121.trans (congrArg some (by kernel_rfl))⟩,
  f31 := Tryz.func122.trans (congrArg some (by kernel_rfl)),
  f32 := Tryz.func123.trans (congrArg some (by kernel_rfl)),
  f33 := ⟨Tryz.f124.name, by decide, Tryz.func124.trans (congrArg some (by kernel_rfl))⟩,
  f34 := ⟨Tryz.f125.name, by decide, Tryz.func125.trans (congrArg some (by kernel_rfl))⟩,
  f35 := ⟨Tryz.f126.name, by decide, Tryz.func126.trans (congrArg some (by kernel_rfl))⟩,
  f40 := ⟨Tryz.f127.name, by decide, Tryz.func127.trans (congrArg some (by kernel_rfl))⟩,
  t0 := Tryz.underlying0,
  a0 := Tryz.isAgg0,
  z0 := Tryz.sizeOf0,
  v0 := Tryz.zeroValue0,
  t3 := Tryz.underlying3,
  a3 := Tryz.isAgg3,
  z3 := Tryz.sizeOf3,
  v3 := Tryz.zeroValue3,
  t4 := Tryz.underlying4,
  a4 := Tryz.isAgg4,
  z4 := Tryz.sizeOf4,
  v4 := Tryz.zeroValue4,
  t5 := Tryz.underlying5,
  a5 := Tryz.isAgg5,
  z5 := Tryz.sizeOf5,
  v5 := Tryz.zeroValue5,
  t9 := Tryz.underlying9,
  a9 := Tryz.isAgg9,
  z9 := Tryz.sizeOf9,
  v9 := Tryz.zeroValue9,
  t22 := Tryz.underlying22,
  a22 := Tryz.isAgg22,
  z22 := Tryz.sizeOf22,
  v22 := Tryz.zeroValue22,
  t23 := Tryz.underlying22,
  a23 := Tryz.isAgg22,
  z23 := Tryz.sizeOf22,
  v23 := Tryz.zeroValue22,
  t25 := Tryz.underlying3,
  a25 := Tryz.isAgg3,
  z25 := Tryz.sizeOf3,
  v25 := Tryz.zeroValue3,
  t32 := Tryz.underlying150,
  a32 := Tryz.isAgg150,
  z32 := Tryz.sizeOf150,
  v32 := Tryz.zeroValue150,
  t35 := Tryz.underlying155,
  a35 := Tryz.isAgg155,
  z35 := Tryz.sizeOf155,
  v35 := Tryz.zeroValue155,
  t36 := Tryz.underlying156,
  a36 := Tryz.isAgg156,
  z36 := Tryz.sizeOf156,
  v36 := Tryz.zeroValue156,
  t41 := Tryz.underlying92,
  a41 := Tryz.isAgg92,
  z41 := Tryz.sizeOf92,
  v41 := Tryz.zeroValue92,
  t44 := Tryz.underlying162,
  a44 := Tryz.isAgg162,
  z44 := Tryz.sizeOf162,
  v44 := Tryz.zeroValue162,
  t46 := Tryz.underlying137,
  a46 := Tryz.isAgg137,
  z46 := Tryz.sizeOf137,
  v46 := Tryz.zeroValue137,
  t53 := Tryz.underlying164,
  a53 := Tryz.isAgg164,
  z53 := Tryz.sizeOf164,
  v53 := Tryz.zeroValue164,
  t57 := Tryz.underlying168,
  a57 := Tryz.isAgg168,
  z57 := Tryz.sizeOf168,
  v57 := Tryz.zeroValue168,
  t63 := Tryz.underlying170,
  a63 := Tryz.isAgg170,
  z63 := Tryz.sizeOf170,
  v63 := Tryz.zeroValue170,
  t64 := Tryz.underlying64,
  a64 := Tryz.isAgg64,
  z64 := Tryz.sizeOf64,
  v64 := Tryz.zeroValue64 }
def Tryz.compL_ren : Go.Shelf.Ren := ⟨fun | 43 => 92 | n => n, fun | 22 => 22 | 23 => 3 | 3 => 3 | 4 => 4 | 0 => 0 | n => n, fun | n => n⟩
theorem Tryz.compL : Go.Proofs.SlLaysN.n43 Tryz.prog Tryz.compL_ren := {
  mixed := by kernel_rfl,
  f43 := ⟨Tryz.f92.name, by decide, Tryz.func92.trans (congrArg some (by kernel_rfl))⟩,
  t0 := Tryz.underlying0,
  a0 := Tryz.isAgg0,
  z0 := Tryz.sizeOf0,
  v0 := Tryz.zeroValue0,
  t3 := Tryz.underlying3,
  a3 := Tryz.isAgg3,
  z3 := Tryz.sizeOf3,
  v3 := Tryz.zeroValue3,
  t4 := Tryz.underlying4,
  a4 := Tryz.isAgg4,
  z4 := Tryz.sizeOf4,
  v4 := Tryz.zeroValue4,
  t22 := Tryz.underlying22,
  a22 := Tryz.isAgg22,
  z22 := Tryz.sizeOf22,
  v22 := Tryz.zeroValue22,
  t23 := Tryz.underlying3,
  a23 := Tryz.isAgg3,
  z23 := Tryz.sizeOf3,
  v23 := Tryz.zeroValue3,
  i23 := by kernel_rfl }
end Go.Proofs.YtajkjiegcmpjaaaGreat
namespace Go.Proofs.YtajkjiegcmpjaaaGreat
set_option maxRecDepth 100000
open Go.RowKit Go.Sort Go.Lib
theorem compact_up (d : Array Int) (hs : ∀ i j, i ≤ j → j < d.size → d[i]! ≤ d[j]!) : ∀ m, m ≤ d.size → Rise (compactUpTo d m) ∧ ∀ x, x ∈ compactUpTo d m ↔ ∃ j, j < m ∧ d[j]! = x
  | 0, _ => by
    refine ⟨by simp [compactUpTo]; exact List.Pairwise.nil, fun x => by simp [compactUpTo]⟩
  | m + 1, hm => by
    obtain ⟨h1, h2⟩ := compact_up d hs m (by omega)
    rw [compactUpTo_succ]
    by_cases hk : keeps d m = true
    · rw [if_pos hk]
      have hk' : m = 0 ∨ d[m]! ≠ d[m - 1]! := by simpa [keeps] using hk
      refine ⟨?_, fun x => ?_⟩
      · unfold Rise at h1 ⊢
        rw [List.pairwise_append]
        refine ⟨h1, List.pairwise_singleton _ _, fun a ha b hb => ?_⟩
        obtain ⟨j, hj, rfl⟩ := (h2 a).1 ha
        simp at hb; subst hb
        have e1 := hs j (m - 1) (by omega) (by omega)
        have e2 := hs (m - 1) m (by omega) (by omega)
        rcases hk' with e | e
        · omega
        · omega
      · rw [List.mem_append, h2]
        constructor
        · rintro (⟨j, hj, rfl⟩ | hx)
          · exact ⟨j, by omega, rfl⟩
          · simp at hx; exact ⟨m, by omega, hx.symm⟩
        · rintro ⟨j, hj, rfl⟩
          by_cases hjm : j < m
          · exact .inl ⟨j, hjm, rfl⟩
          · obtain rfl : j = m := by omega
            exact .inr (by simp)
    · rw [if_neg hk, List.append_nil]
      refine ⟨h1, fun x => ?_⟩
      rw [h2]
      have hk' : ¬ m = 0 ∧ d[m]! = d[m - 1]! := by simpa [keeps] using hk
      constructor
      · rintro ⟨j, hj, rfl⟩; exact ⟨j, by omega, rfl⟩
      · rintro ⟨j, hj, rfl⟩
        by_cases hjm : j < m
        · exact ⟨j, hjm, rfl⟩
        · obtain rfl : j = m := by omega
          exact ⟨j - 1, by omega, hk'.2.symm⟩
theorem sort_le (l : List Int) : (l.mergeSort fun x y => decide (x ≤ y)).Pairwise (· ≤ ·) := by
  have := List.pairwise_mergeSort (le := fun x y : Int => decide (x ≤ y)) (fun a b c => by simp; omega) (fun a b => by simp; omega) l
  exact this.imp fun h => by simpa using h
theorem compact_sort (l : List Int) : compact (l.mergeSort fun x y => decide (x ≤ y)) = rise l := by
  have hp := List.mergeSort_perm l fun x y : Int => decide (x ≤ y)
  obtain ⟨h1, h2⟩ := compact_up (l.mergeSort fun x y => decide (x ≤ y)).toArray (fun i j hij hj => by
    have hj' : j < (l.mergeSort fun x y => decide (x ≤ y)).length := by simpa using hj
    rw [getElem!_pos _ i (by simp at hj ⊢; omega), getElem!_pos _ j hj]
    rcases Nat.lt_or_eq_of_le hij with h | h
    · exact List.pairwise_iff_getElem.1 (sort_le l) i j (by omega) hj' h
    · subst h; exact Int.le_refl _) _ (Nat.le_refl _)
  refine Rise.eq (by simpa [compact] using h1) (rise_rise l) fun x => ?_
  rw [mem_rise, ← hp.mem_iff]
  have := h2 x
  simp only [List.size_toArray] at this
  unfold compact
  rw [this]
  constructor
  · rintro ⟨j, hj, rfl⟩
    rw [getElem!_pos _ j (by simpa using hj)]
    exact List.getElem_mem _
  · intro hx
    obtain ⟨j, hj, rfl⟩ := List.getElem_of_mem hx
    exact ⟨j, hj, by rw [getElem!_pos _ j (by simpa using hj)]; rfl⟩
theorem sort_rise {l : List Int} (hn : l.Nodup) : (l.mergeSort fun x y => decide (x ≤ y)) = rise l := by
  have hp := List.mergeSort_perm l fun x y : Int => decide (x ≤ y)
  refine Rise.eq ?_ (rise_rise l) fun x => by rw [mem_rise, hp.mem_iff]
  unfold Rise
  have h1 := sort_le l
  have h2 := hp.nodup_iff.2 hn
  exact (h1.and h2).imp fun h => by omega
theorem OwnI.split {base : Nat} {w : World} {v : Value} {l : List Int} (h : OwnI base w v l) : (v = .slice none 0 0 ∧ l = []) ∨ ∃ g cap cur, v = .slice (some ⟨g, 0, none⟩) l.length cap ∧ base ≤ g ∧ w.heap[g]? = some (.cells cur 3 (0, 0)) ∧ l.length ≤ cap ∧ cap ≤ maxLen ∧ cur.size = cap * 1 ∧ cur.toList.take l.length = l.map encZ := by
  unfold OwnI at h
  obtain ⟨h0, hn | ⟨g, cap, cur, hv, hb, hh, r1, r2, r3, r4⟩⟩ := h
  · obtain ⟨h1, h2⟩ := hn
    refine .inl ⟨h1, ?_⟩
    rw [i64s_length] at h2
    exact List.eq_nil_of_length_eq_zero h2
  · rw [i64s_length] at hv r1
    refine .inr ⟨g, cap, cur, hv, hb, hh, r1, r2, r3, ?_⟩
    rw [i64s_length, Nat.mul_one] at r4
    exact r4
theorem OwnI.of_row {base : Nat} {w : World} {v : Value} {l : List Int} (h : w.ownsRow base 3 1 v l.length (l.map encZ)) : OwnI base w v l := by
  unfold OwnI; rw [i64s_length]; exact h
theorem mod_sorted {w : World} {g n : Nat} {os : Array Obj} (d : Array Int) : Mod (fun k => k = g) w (Go.Sort.grow (putRow encZ (Sort.ahead w n) g 0 d) os) := by
  have h := grownBy_sorted_i (w := w) (g := g) (n := n) (os := os) d
  exact ⟨h.os, h.tape, h.output, h.size, fun k hk hn => h.block k hk fun e => hn (Option.some.inj e)⟩
theorem Sort_own {base : Nat} {w : World} {v : Value} {l : List Int} (h : OwnI base w v l) (hlen : l.length ≤ 2100) :
    Calls Tryz.prog 91 #[v] w fun e w' => e = .returned (.tuple #[]) ∧ OwnI base w' v (l.mergeSort fun x y => decide (x ≤ y)) ∧ Mod (fun k => v.ownBlock = some k) w w' := by
  rcases h.split with ⟨rfl, rfl⟩ | ⟨g, cap, cur, rfl, hb, hh, r1, r2, r3, r4⟩
  · refine (AnyM.slices_Sort_int_none Tryz.sortL none 0 w).mono ?_
    rintro e w' ⟨rfl, rfl⟩
    exact ⟨rfl, by simpa using h, Mod.refl _ _⟩
  · refine (AnyM.slices_Sort_int Tryz.sortL g 0 cap l w (holds_of_block_i hh r4) (Array.getElem?_eq_some_iff.1 hh).1 (by omega)).mono ?_
    rintro e w' ⟨rfl, n, os, rfl⟩
    have hl : (l.mergeSort fun x y => decide (x ≤ y)).length = l.length := List.length_mergeSort l
    refine ⟨rfl, OwnI.of_row ?_, (mod_sorted _).mono fun i _ hi => by subst hi; rfl⟩
    have := ownsRow_sorted_i (n := n) (os := os) (ts := l.mergeSort fun x y => decide (x ≤ y)) (ss := l) hl hb hh r1 r2 r3
    rw [hl]; exact this
theorem Compact_own {base : Nat} {w : World} {v : Value} {l : List Int} (h : OwnI base w v l) :
    Calls Tryz.prog 92 #[v] w fun e w' => ∃ v', e = .returned v' ∧ OwnI base w' v' (compact l) ∧ Mod (fun k => v.ownBlock = some k) w w' := by
  rcases h.split with ⟨rfl, rfl⟩ | ⟨g, cap, cur, rfl, hb, hh, r1, r2, r3, r4⟩
  · refine (AnyG.slices_Compact_int_empty Tryz.compL none 0 w).mono ?_
    rintro e w' ⟨rfl, rfl⟩
    exact ⟨_, rfl, h, Mod.refl _ _⟩
  · refine (AnyG.slices_Compact_int Tryz.compL g 0 cap l w (holds_of_block_i hh r4) (by unfold maxLen at r2; omega) r1).mono ?_
    rintro e w' ⟨rfl, n, rfl⟩
    have hle : (compact l).length ≤ l.length := by
      unfold compact compactUpTo
      rw [List.length_map]
      exact Nat.le_trans (List.length_filter_le _ _) (by simp)
    have hl : (compact l ++ List.replicate (l.length - (compact l).length) 0).length = l.length := by simp; omega
    refine ⟨_, rfl, ?_, ?_⟩
    · have := ownsRow_sorted_i (n := n) (os := #[]) (ts := compact l ++ List.replicate (l.length - (compact l).length) 0) (ss := l) hl hb hh r1 r2 r3
      rw [Go.Sort.grow_empty] at this
      have h2 := own_take (xs := (compact l ++ List.replicate (l.length - (compact l).length) 0).map encZ) (n := (compact l).length) (by rw [List.length_map, hl]; exact this) (by rw [List.length_map, hl]) (by rw [List.length_map, hl]; exact hle)
      refine OwnI.of_row ?_
      have e1 : ((compact l ++ List.replicate (l.length - (compact l).length) 0).map encZ).take (compact l).length = (compact l).map encZ := by
        rw [List.map_append, List.take_left' (by simp)]
      rw [e1, List.length_map] at h2
      exact h2
    · have := mod_sorted (w := w) (g := g) (n := n) (os := #[]) (compact l ++ List.replicate (l.length - (compact l).length) 0).toArray
      rw [Go.Sort.grow_empty] at this
      exact this.mono fun i _ hi => by subst hi; rfl
theorem Tryz.sortsL (m : Nat) : AnyZI.SortsIn Tryz.prog Tryz.sortedL_ren Fence.wide m :=
  ⟨fun blk off cap ss W hH hblk hsz => callsIn_wide.2 (AnyM.slices_Sort_int Tryz.sortL blk off cap ss W hH hblk hsz),
   fun p cap W => callsIn_wide.2 (AnyM.slices_Sort_int_none Tryz.sortL p cap W)⟩
end Go.Proofs.YtajkjiegcmpjaaaGreat
namespace Go.Proofs.YtajkjiegcmpjaaaGreat
set_option maxRecDepth 100000
open Go.RowKit
theorem runs_extract {P : Program} {o : Oper} {ρ : Operand → Value} {w : World} {x : Operand} {i : Nat} {vs : Array Value} {u : Value} (ho : o.op = .extract x i) (hx : ρ x = .tuple vs) (hi : vs[i]? = some u) : Runs P o ρ w u := by
  unfold Runs execOp
  simp [ho, hx, Instr.extract, hi]
set_option maxHeartbeats 1600000 in
theorem IClone_any {w : World} {v : Value} {l : List Int} (h0 : Ints w v l) (hlen : l.length * 8 ≤ 140737488355328) :
    Calls Tryz.prog 24 #[v] w fun e w' => ∃ v', e = .returned v' ∧ OwnI w.heap.size w' v' l ∧ Ext w w' := by
  refine z30z ?_
  have hr := hide_ h0
  have hbig := hide_ (show (([] : List Int).length + l.length) * 8 ≤ 140737488355328 from by simp; omega)
  clear h0 hlen
  go_enter Tryz.func24, Tryz.ntmps24
  go_wp2_with ((first | ((with_reducible refine at_bin ?_); refine w_isnil Tryz.elI _ _ _ rfl rfl rfl hr.out ?_; intro b hb; cases b) | ((with_reducible refine at_lit ?_); refine w_new Tryz.elI (i64s []) rfl rfl rfl (i64s_cells _) rfl (by omega) ?_; intro v5 w5 hX o5; replace o5 : OwnI _ w5 v5 [] := o5) | ((with_reducible refine at_bi ?_); refine appi _ _ rfl rfl rfl rfl o5 (hr.out.ext hX) hbig.out hX.size ?_; intro v9 w9 o9 hb9 hg9 hg9'; rw [List.nil_append] at o9; replace hX := hX.trans' hb9; clear hb9 hg9 hg9' o5) | fail) <;> (try refine z1z ?_))
  · go_ret
    exact Keep.intro ⟨v9, rfl, o9, hX⟩
  · obtain rfl : l = [] := List.map_eq_nil_iff.1 (hb trivial).1
    go_ret
    exact Keep.intro ⟨_, rfl, OwnI.nil _ _, Ext.refl _⟩
end Go.Proofs.YtajkjiegcmpjaaaGreat
namespace Go.Proofs.YtajkjiegcmpjaaaGreat
set_option maxRecDepth 100000
open Go.RowKit
def tok (v : Value) : Option (DataW Value × List MemPlace) := some (.held v, [])
theorem sameKey_int (a b : Int) : (Lit.int .i64 a).sameKey (.int .i64 b) = decide (a = b) := by simp [Lit.sameKey]
theorem ownsMap_mod {F : Nat → Prop} {w w' : World} {P : Program} {k : TypeId} {R : Value → Option (DataW Value × List MemPlace)} {b n : Nat} {D : DataW Value} (h : w.ownsMap P k R b n D) (hm : Mod F w w') (hn : ¬ F b) : w'.ownsMap P k R b n D := by
  have hl := h.lt
  obtain ⟨es, clock, hb, r⟩ := h
  exact ⟨es, clock, (hm.block b hl hn).trans hb, r⟩
theorem ownsMap_ext {w w' : World} {P : Program} {k : TypeId} {R : Value → Option (DataW Value × List MemPlace)} {b n : Nat} {D : DataW Value} (h : w.ownsMap P k R b n D) (he : Ext w w') : w'.ownsMap P k R b n D :=
  ownsMap_mod h (he.mod fun _ => False) id
section
variable {ops : Array Oper} {rest : List Oper} {o : Oper} {a : Act} {Q : Exit → Act → World → Prop} {w : World}
theorem w_mkmap {t : TypeId} (hgd : o.guard = none) (ho : o.op = Op.makeMap t none)
    (k : ∀ g w', w.heap.size ≤ g → Ext w w' → w'.ownsMap Tryz.prog 3 tok g 0 (.map []) → wpList Tryz.prog ops Q rest (a.put o.dst (.map (some g))) w') : wpList Tryz.prog ops Q (o :: rest) a w := by
  refine wpList_plain hgd fun K hK => ?_
  have hk := hK _ _ (k w.heap.size (w.alloc (.map #[] 0)) (Nat.le_refl _) ((Ext.refl w).alloc _) (World.ownsMap_made w Tryz.prog 3 tok))
  unfold Oper.wp execOp
  simp [ho, run_makeMap, Result.andThen]
  exact hk
end
theorem w_alloc1 {P : Program} {ops : Array Oper} {rest : List Oper} {o : Oper} {a : Act} {Q : Exit → Act → World → Prop} {w : World} {t : TypeId} {z : Value} (hi : (P.info? t).map (fun i => (i.zero, i.size)) = some (some z, 1)) (hz : z.cells = #[z]) (hgd : o.guard = none) (ho : o.op = .alloc t)
    (k : ∀ g w', w.heap.size ≤ g → Ext w w' → Fs w' g [z] → wpList P ops Q rest (a.put o.dst (.pointer (some ⟨g, 0, none⟩))) w') : wpList P ops Q (o :: rest) a w := by
  cases hq : P.info? t with
  | none => rw [hq] at hi; cases hi
  | some i0 =>
    rw [hq] at hi
    simp only [Option.map_some, Option.some.injEq, Prod.mk.injEq] at hi
    refine wpList_plain hgd fun K hK => ?_
    have hk := hK _ _ (k _ _ (Nat.le_refl _) ((Ext.refl w).alloc (.cells #[z] t)) (by simpa using Fs.alloc w #[z] t))
    unfold Oper.wp execOp
    simp [ho, Instr.alloc, newVar, newRow, zeroValue, typeInfo, hq, hi.1, hz]
    exact hk
end Go.Proofs.YtajkjiegcmpjaaaGreat
namespace Go.Proofs.YtajkjiegcmpjaaaGreat
set_option maxRecDepth 100000
open Go.RowKit
def In64 (x : Int) : Prop := -9223372036854775808 ≤ x ∧ x ≤ 9223372036854775807
theorem In64.wf {x : Int} (h : In64 x) : (Lit.int .i64 x).wf = true := by unfold In64 at h; simp [Lit.wf, IntKind.min, IntKind.max, IntKind.signed, IntKind.bits]; omega
theorem wf_in {x : Int} (h : (Lit.int .i64 x).wf = true) : In64 x := by unfold In64; simp [Lit.wf, IntKind.min, IntKind.max, IntKind.signed, IntKind.bits] at h; omega
theorem In64.nat {n : Nat} (h : n ≤ 1000000) : In64 (n : Int) := by unfold In64; omega
theorem Tryz.keyR : Maps.Keyed Tryz.prog 112 := Maps.Keyed.of_law (deep_law (m := 2) (by omega) (by kernel_rfl) (by kernel_rfl) (by kernel_rfl))
def rkV (k w : Int) : Value := .agg #[.int .i64 k, .int .i64 w]
noncomputable def rkL (k w : Int) : Go.Lit := .string (keyBytes [.int .i64 k, .int .i64 w])
theorem Tryz.cellsR : Tryz.prog.cellsOf 112 = 2 := by kernel_rfl
theorem Tryz.cellsI : Tryz.prog.cellsOf 3 = 1 := by kernel_rfl
theorem Tryz.ktR : Tryz.prog.keyType 112 = true := by kernel_rfl
theorem Tryz.tsz : ∃ m, Tryz.prog.types.size = m + 1 := ⟨Tryz.prog.types.size - 1, by kernel_rfl⟩
theorem rkL_of {k w : Int} (hk : In64 k) (hw : In64 w) : keyOf Tryz.prog 112 (rkV k w) = some (rkL k w) := by
  obtain ⟨m, hm⟩ := Tryz.tsz
  unfold keyOf
  rw [Tryz.underlying112]
  simp only [Tryz.ktR, Bool.true_and, rkV, Value.formed, Tryz.underlying112, Tryz.cellsR, hm, rkL]
  simp [Program.keyLits, Tryz.underlying112, Tryz.underlying3, Tryz.cellsR, Tryz.cellsI, Value.cells, hk.wf, hw.wf]
theorem kl_int {m : Nat} {a : Value} {y : List Go.Lit} (h : Tryz.prog.keyLits (m + 1) 3 [a] = some y) : ∃ n, a = .int .i64 n ∧ y = [.int .i64 n] ∧ In64 n := by
  unfold Program.keyLits at h
  rw [Tryz.underlying3] at h
  cases a with
  | int q n =>
    simp only at h
    split at h
    · rename_i hc
      obtain ⟨rfl, hw⟩ := hc
      injection h with h
      exact ⟨n, rfl, h.symm, wf_in hw⟩
    · cases h
  | _ => cases h
theorem keyR_inv {v : Value} {l : Go.Lit} (h : keyOf Tryz.prog 112 v = some l) : ∃ k w, v = rkV k w ∧ l = rkL k w ∧ In64 k ∧ In64 w := by
  obtain ⟨m, hm⟩ := Tryz.tsz
  unfold keyOf at h
  rw [Tryz.underlying112] at h
  simp only [Tryz.ktR, Bool.true_and] at h
  split at h
  · rename_i hf
    cases v <;> simp only [Value.formed, Tryz.underlying112, Bool.false_eq_true] at hf
    rename_i cs
    rw [Tryz.cellsR, beq_iff_eq] at hf
    obtain ⟨l⟩ := cs
    match l, hf with
    | [a, b], _ =>
      unfold Program.keyLits at h
      rw [Tryz.underlying112, Tryz.cellsR, hm] at h
      obtain ⟨ls, hls, rfl⟩ := Option.map_eq_some_iff.1 h
      have h2 := (Option.ite_none_right_eq_some.1 hls).2
      obtain ⟨ll, h3, rfl⟩ := Option.map_eq_some_iff.1 h2
      simp only [Value.cells, List.mapM_cons, List.mapM_nil, List.drop_zero, List.drop_succ_cons, Tryz.cellsI, List.take_succ_cons, List.take_zero, bind, pure] at h3
      cases h1 : Tryz.prog.keyLits (m + 1) 3 [a] with
      | none => rw [h1] at h3; cases h3
      | some y1 =>
        cases h5 : Tryz.prog.keyLits (m + 1) 3 [b] with
        | none => rw [h1, h5] at h3; cases h3
        | some y2 =>
          rw [h1, h5] at h3
          obtain ⟨k, rfl, rfl, hk⟩ := kl_int h1
          obtain ⟨w, rfl, rfl, hw⟩ := kl_int h5
          injection h3 with h3
          exact ⟨k, w, rfl, by rw [← h3]; rfl, hk, hw⟩
  · cases h
theorem rkL_inj {k w k' w' : Int} (hk : In64 k) (hw : In64 w) (hk' : In64 k') (hw' : In64 w') (h : rkL k w = rkL k' w') : k = k' ∧ w = w' := by
  have := Tryz.keyR.inj (rkL_of hk hw) (h ▸ rkL_of hk' hw')
  simpa [rkV] using this
theorem rkL_key (k w : Int) : WideAt.IsKeyLit (rkL k w) := trivial
def fat (f : Nat → Option Int) (j : Int) : Option Int := if j < 0 then none else f j.toNat
theorem fat_nat (f : Nat → Option Int) (i : Nat) : fat f (i : Int) = f i := by unfold fat; rw [if_neg (by omega)]; simp
def InM (D : DataW Value) (f : Nat → Option Int) : Prop :=
  Maps.IsMap D ∧ ∀ j : Int, In64 j → Maps.has D (.int .i64 j) = (fat f j).isSome ∧ D.atKey (.int .i64 j) (.held (.int .i64 0)) = .held (.int .i64 ((fat f j).getD 0))
theorem InM.nil : InM (.map []) fun _ => none :=
  ⟨Maps.isMap_empty, fun j _ => by
    have : fat (fun _ => none) j = none := by unfold fat; split <;> rfl
    rw [this]; exact ⟨rfl, rfl⟩⟩
theorem litI_ne {a b : Int} (h : a ≠ b) : (Lit.int .i64 a) ≠ Lit.int .i64 b := fun e => by injection e with _ e; exact h e
theorem InM.put {D : DataW Value} {f : Nat → Option Int} (h : InM D f) (i : Nat) (x : Int) : InM (D.put (.int .i64 (i : Int)) (.held (.int .i64 x))) fun j => if j = i then some x else f j := by
  refine ⟨h.1.put _ _, fun j hj => ?_⟩
  by_cases e : j = (i : Int)
  · subst e
    rw [Maps.has_put_same h.1 (by trivial), Maps.atKey_put_same h.1 (by trivial), fat_nat]
    simp
  · rw [Maps.has_put_other (litI_ne e), Maps.atKey_put_other (litI_ne e)]
    have : fat (fun j => if j = i then some x else f j) j = fat f j := by
      unfold fat
      split
      · rfl
      · show (if j.toNat = i then some x else f j.toNat) = f j.toNat
        rw [if_neg (by omega)]
    rw [this]; exact h.2 j hj
def InR (N : Nat) (w : World) (mb : Option Nat) (f : Nat → Option Int) : Prop := match mb with
  | none => ∀ i, f i = none
  | some b => ∃ (n : Nat) (D : DataW Value), n ≤ N ∧ w.ownsMap Tryz.prog 3 tok b n D ∧ InM D f
theorem InR.mod {N : Nat} {F : Nat → Prop} {w w' : World} {mb : Option Nat} {f : Nat → Option Int} (h : InR N w mb f) (hm : Mod F w w') (hn : ∀ b, mb = some b → ¬ F b) : InR N w' mb f := by
  cases mb with
  | none => exact h
  | some b => obtain ⟨n, D, h0, h1, h2⟩ := h; exact ⟨n, D, h0, ownsMap_mod h1 hm (hn b rfl), h2⟩
theorem InR.ext {N : Nat} {w w' : World} {mb : Option Nat} {f : Nat → Option Int} (h : InR N w mb f) (he : Ext w w') : InR N w' mb f := h.mod (he.mod fun _ => False) fun _ _ => id
theorem InR.more {N N' : Nat} {w : World} {mb : Option Nat} {f : Nat → Option Int} (h : InR N w mb f) (hN : N ≤ N') : InR N' w mb f := by
  cases mb with
  | none => exact h
  | some b => obtain ⟨n, D, h0, h1, h2⟩ := h; exact ⟨n, D, by omega, h1, h2⟩
def TabOk (T : Tab) (n : Nat) : Prop := ∀ k w i x, T k w i = some x → (k = 4 ∨ k = 5) ∧ (0 ≤ w ∧ w ≤ 1000) ∧ i < n ∧ -1 ≤ x ∧ x ≤ 9223372036854775807
structure RndM (D : DataW Value) (m : Int → Int → Option Nat) : Prop where
  map : Maps.IsMap D
  get : ∀ k v, In64 k → In64 v → Maps.has D (rkL k v) = (m k v).isSome ∧ D.atKey (rkL k v) (.held (.map none)) = .held (.map (m k v))
  dom : ∀ k v, m k v ≠ none → (k = 4 ∨ k = 5) ∧ 0 ≤ v ∧ v ≤ 1000
  inj : ∀ k v k' v' b, m k v = some b → m k' v' = some b → k = k' ∧ v = v'
theorem RndM.in64 {D : DataW Value} {m : Int → Int → Option Nat} (h : RndM D m) {k v : Int} (hm : m k v ≠ none) : In64 k ∧ In64 v := by
  have := h.dom k v hm
  unfold In64; omega
theorem RndM.nil : RndM (.map []) fun _ _ => none :=
  ⟨Maps.isMap_empty, fun _ _ _ _ => ⟨rfl, rfl⟩, fun _ _ h => absurd rfl h, fun _ _ _ _ _ h => nomatch h⟩
structure TalW (X : Nat → Prop) (w : World) (p : Nat) (sv : Value) (g : Nat) (D : DataW Value) (m : Int → Int → Option Nat) (t : List Int) (T : Tab) (N : Nat) : Prop where
  obj : Fs w p [sv, .map (some g)]
  stk : Ints w sv t
  sto : ∀ k, sv.ownBlock = some k → X k ∧ k < w.heap.size ∧ k ≠ p ∧ k ≠ g
  xp : X p ∧ X g ∧ p ≠ g
  own : w.ownsMap Tryz.prog 112 tok g N D
  rnd : RndM D m
  inn : ∀ k v, InR N w (m k v) (T k v)
  sep : ∀ k v b, m k v = some b → X b ∧ b < w.heap.size ∧ b ≠ p ∧ b ≠ g ∧ sv.ownBlock ≠ some b
  ok : TabOk T t.length
  st : StOk t
section
variable {X Y F : Nat → Prop} {w w' : World} {p g : Nat} {sv : Value} {D : DataW Value} {m : Int → Int → Option Nat} {t : List Int} {T : Tab} {N : Nat}
theorem ints_mod (h : Ints w sv t) (hm : Mod F w w') (hn : ∀ k, sv.ownBlock = some k → ¬ F k) : Ints w' sv t := Sl.mod h hm hn
theorem TalW.mod (h : TalW X w p sv g D m t T N) (hm : Mod F w w') (hX : ∀ k, X k → ¬ F k) : TalW X w' p sv g D m t T N where
  obj := h.obj.mod hm (hX p h.xp.1)
  stk := ints_mod h.stk hm fun k hk => hX k (h.sto k hk).1
  sto := fun k hk => ⟨(h.sto k hk).1, Nat.lt_of_lt_of_le (h.sto k hk).2.1 hm.size, (h.sto k hk).2.2⟩
  xp := h.xp
  own := ownsMap_mod h.own hm (hX g h.xp.2.1)
  rnd := h.rnd
  inn := fun k v => (h.inn k v).mod hm fun b hb => hX b (h.sep k v b hb).1
  sep := fun k v b hb => ⟨(h.sep k v b hb).1, Nat.lt_of_lt_of_le (h.sep k v b hb).2.1 hm.size, (h.sep k v b hb).2.2⟩
  ok := h.ok
  st := h.st
theorem TalW.ext (h : TalW X w p sv g D m t T N) (he : Ext w w') : TalW X w' p sv g D m t T N := h.mod (he.mod fun _ => False) fun _ _ => id
theorem TalW.mono (h : TalW X w p sv g D m t T N) (hs : ∀ k, X k → Y k) : TalW Y w p sv g D m t T N :=
  ⟨h.obj, h.stk, fun k hk => ⟨hs k (h.sto k hk).1, (h.sto k hk).2⟩, ⟨hs p h.xp.1, hs g h.xp.2.1, h.xp.2.2⟩, h.own, h.rnd, h.inn, fun k v b hb => ⟨hs b (h.sep k v b hb).1, (h.sep k v b hb).2⟩, h.ok, h.st⟩
end
theorem TabOk.put {T : Tab} {n : Nat} (h : TabOk T n) {k v x : Int} {i : Nat} (hk : k = 4 ∨ k = 5) (hv : 0 ≤ v ∧ v ≤ 1000) (hi : i < n) (hx : -1 ≤ x ∧ x ≤ 9223372036854775807) : TabOk (fun k' v' i' => if k' = k ∧ v' = v ∧ i' = i then some x else T k' v' i') n := by
  intro k' v' i' x' hc
  simp only at hc
  split at hc
  · rename_i e
    obtain ⟨rfl, rfl, rfl⟩ := e
    injection hc with hc
    subst hc
    exact ⟨hk, hv, hi, hx⟩
  · exact h k' v' i' x' hc
section
variable {X Y F : Nat → Prop} {w w' w'' : World} {p g b : Nat} {sv : Value} {D : DataW Value} {m : Int → Int → Option Nat} {t : List Int} {T : Tab} {N : Nat} {k v x : Int} {i : Nat}
theorem TalW.begin (h : TalW X w p sv g D m t T N) (hm : m k v = none) (hk : k = 4 ∨ k = 5) (hv : 0 ≤ v ∧ v ≤ 1000) (he : Ext w w') (hb : w.heap.size ≤ b) (hbl : b < w'.heap.size)
    (hmd : Mod (fun j => j = g) w' w'') (hnew : w''.ownsMap Tryz.prog 3 tok b 0 (.map [])) (hown : w''.ownsMap Tryz.prog 112 tok g (N + 1) (D.put (rkL k v) (.held (.map (some b))))) :
    TalW (fun j => X j ∨ j = b) w'' p sv g (D.put (rkL k v) (.held (.map (some b)))) (fun k' v' => if k' = k ∧ v' = v then some b else m k' v') t T (N + 1) := by
  have h1 := h.ext he
  have hgl := h1.own.lt
  have hbg : b ≠ g := fun e => by have := h.own.lt; omega
  have hbp : b ≠ p := fun e => by have := h.obj.lt; omega
  have hs := hmd.size
  have hk64 : In64 k := by unfold In64; omega
  have hv64 : In64 v := by unfold In64; omega
  have hT : ∀ i, T k v i = none := by have := h.inn k v; rw [hm] at this; exact this
  refine ⟨h1.obj.mod hmd h.xp.2.2, ints_mod h1.stk hmd fun j hj => (h.sto j hj).2.2.2, fun j hj => ?_, ⟨.inl h.xp.1, .inl h.xp.2.1, h.xp.2.2⟩, hown, ⟨h.rnd.map.put _ _, ?_, ?_, ?_⟩, ?_, ?_, h.ok, h.st⟩
  · have := h1.sto j hj
    exact ⟨.inl this.1, by omega, this.2.2⟩
  · intro k' v' hk' hv'
    by_cases e : k' = k ∧ v' = v
    · obtain ⟨rfl, rfl⟩ := e
      rw [Maps.has_put_same h.rnd.map (rkL_key _ _), Maps.atKey_put_same h.rnd.map (rkL_key _ _), if_pos ⟨rfl, rfl⟩]
      exact ⟨rfl, rfl⟩
    · have hne : rkL k' v' ≠ rkL k v := fun he => e (rkL_inj hk' hv' hk64 hv64 he)
      rw [Maps.has_put_other hne, Maps.atKey_put_other hne, if_neg e]
      exact h.rnd.get k' v' hk' hv'
  · intro k' v' hne
    split at hne
    · rename_i e; rw [e.1, e.2]; exact ⟨hk, hv⟩
    · exact h.rnd.dom k' v' hne
  · intro k1 v1 k2 v2 b' h1' h2'
    have old : ∀ k' v', m k' v' = some b' → b' ≠ b := fun k' v' he e => by have := (h.sep k' v' b' he).2.1; omega
    split at h1' <;> split at h2'
    · rename_i e1 e2; rw [e1.1, e1.2, e2.1, e2.2]; exact ⟨rfl, rfl⟩
    · injection h1' with e; exact absurd e.symm (old _ _ h2')
    · injection h2' with e; exact absurd e.symm (old _ _ h1')
    · exact h.rnd.inj _ _ _ _ _ h1' h2'
  · intro k' v'
    show InR (N + 1) w'' (if k' = k ∧ v' = v then some b else m k' v') (T k' v')
    split
    · rename_i e
      rw [e.1, e.2]
      refine ⟨0, _, by omega, hnew, ?_⟩
      have : T k v = fun _ => none := funext hT
      rw [this]; exact InM.nil
    · exact ((h1.inn k' v').mod hmd fun b' hb' => (h.sep k' v' b' hb').2.2.2.1).more (by omega)
  · intro k' v' b' hb'
    split at hb'
    · injection hb' with e
      subst e
      exact ⟨.inr rfl, by omega, hbp, hbg, fun hc => by have := (h.sto _ hc).2.1; omega⟩
    · have := h1.sep k' v' b' hb'
      exact ⟨.inl this.1, by omega, this.2.2⟩
theorem TalW.vote (h : TalW X w p sv g D m t T N) (hm : m k v = some b) (hk : k = 4 ∨ k = 5) (hv : 0 ≤ v ∧ v ≤ 1000) (hi : i < t.length) (hx : -1 ≤ x ∧ x ≤ 9223372036854775807)
    (hmd : Mod (fun j => j = b) w w') {n N' : Nat} {D' : DataW Value} (hNN : N ≤ N') (hn : n ≤ N') (hown : w'.ownsMap Tryz.prog 3 tok b n (D'.put (.int .i64 (i : Int)) (.held (.int .i64 x)))) (hin : InM D' (T k v)) :
    TalW X w' p sv g D m t (fun k' v' i' => if k' = k ∧ v' = v ∧ i' = i then some x else T k' v' i') N' := by
  have hsp := h.sep k v b hm
  have hs := hmd.size
  refine ⟨h.obj.mod hmd (Ne.symm hsp.2.2.1), ints_mod h.stk hmd fun j hj e => hsp.2.2.2.2 (by rw [hj, e]), fun j hj => ⟨(h.sto j hj).1, by have := (h.sto j hj).2.1; omega, (h.sto j hj).2.2⟩, h.xp, (ownsMap_mod h.own hmd (Ne.symm hsp.2.2.2.1)).mono (by omega), h.rnd, ?_, fun k' v' b' hb' => ⟨(h.sep k' v' b' hb').1, by have := (h.sep k' v' b' hb').2.1; omega, (h.sep k' v' b' hb').2.2⟩, h.ok.put hk hv hi hx, h.st⟩
  intro k' v'
  by_cases e : k' = k ∧ v' = v
  · obtain ⟨rfl, rfl⟩ := e
    rw [hm]
    refine ⟨n, _, hn, hown, ?_⟩
    have : (fun i' => if k' = k' ∧ v' = v' ∧ i' = i then some x else T k' v' i') = fun j => if j = i then some x else T k' v' j := by funext j; simp
    rw [this]; exact hin.put i x
  · have : (fun i' => if k' = k ∧ v' = v ∧ i' = i then some x else T k' v' i') = T k' v' := by
      funext j; rw [if_neg fun hc => e ⟨hc.1, hc.2.1⟩]
    show InR N' w' (m k' v') (fun i' => if k' = k ∧ v' = v ∧ i' = i then some x else T k' v' i')
    rw [this]
    exact ((h.inn k' v').mod hmd fun b' hb' he => by subst he; exact e (h.rnd.inj _ _ _ _ _ hb' hm)).more (by omega)
end
def Tal (X : Nat → Prop) (w : World) (p : Nat) (t : List Int) (T : Tab) (N : Nat) : Prop := ∃ sv g D m, TalW X w p sv g D m t T N
section
variable {X Y F : Nat → Prop} {w w' : World} {p : Nat} {t : List Int} {T : Tab} {N : Nat}
theorem Tal.mod (h : Tal X w p t T N) (hm : Mod F w w') (hX : ∀ k, X k → ¬ F k) : Tal X w' p t T N := by obtain ⟨sv, g, D, m, h⟩ := h; exact ⟨sv, g, D, m, h.mod hm hX⟩
theorem Tal.ext (h : Tal X w p t T N) (he : Ext w w') : Tal X w' p t T N := h.mod (he.mod fun _ => False) fun _ _ => id
theorem Tal.mono (h : Tal X w p t T N) (hs : ∀ k, X k → Y k) : Tal Y w p t T N := by obtain ⟨sv, g, D, m, h⟩ := h; exact ⟨sv, g, D, m, h.mono hs⟩
theorem Tal.ok (h : Tal X w p t T N) : TabOk T t.length := by obtain ⟨sv, g, D, m, h⟩ := h; exact h.ok
theorem Tal.st (h : Tal X w p t T N) : StOk t := by obtain ⟨sv, g, D, m, h⟩ := h; exact h.st
end
theorem Tryz.stTal : St Tryz.prog 110 2 [.slice none 0 0, .map none] := St.of (by kernel_rfl) (by kernel_rfl) rfl
theorem Tryz.stRnd : St Tryz.prog 112 2 [.int .i64 0, .int .i64 0] := St.of (by kernel_rfl) (by kernel_rfl) rfl
theorem zeroM (w : World) : (zeroValue 71).run Tryz.prog w = .ok (.map none) w := by kernel_rfl
theorem zeroI (w : World) : (zeroValue 3).run Tryz.prog w = .ok (.int .i64 0) w := by kernel_rfl
section
variable {ops : Array Oper} {rest : List Oper} {o : Oper} {a : Act} {Q : Exit → Act → World → Prop} {w : World} {ρ : Operand → Value}
theorem runs_rlook (x y : Operand) {g N : Nat} {D : DataW Value} {m : Int → Int → Option Nat} {k v : Int} (ho : o.op = Op.lookup 108 x y false) (hx : ρ x = .map (some g)) (hy : ρ y = rkV k v)
    (hk : In64 k) (hv : In64 v) (h : w.ownsMap Tryz.prog 112 tok g N D) (hr : RndM D m) : Runs Tryz.prog o ρ w (.map (m k v)) := by
  obtain ⟨u, ps, h1, h2⟩ := h.lookup Tryz.keyR Tryz.underlying108 (zeroM w) (zd := .held (.map none)) (zp := []) rfl (rkL_of hk hv)
  rw [(hr.get k v hk hv).2] at h2
  obtain ⟨rfl, _⟩ : u = .map (m k v) ∧ ps = [] := by simpa [tok] using h2
  unfold Runs execOp
  simp [ho, hx, hy, h1]
theorem runs_ilook (x y : Operand) {mb : Option Nat} {f : Nat → Option Int} {j : Int} (ho : o.op = Op.lookup 71 x y true) (hx : ρ x = .map mb) (hy : ρ y = .int .i64 j)
    {N : Nat} (hj : In64 j) (h : InR N w mb f) : Runs Tryz.prog o ρ w (.tuple #[.int .i64 ((fat f j).getD 0), .bool (fat f j).isSome]) := by
  have hkey : keyOf Tryz.prog 3 (.int .i64 j) = some (.int .i64 j) := Maps.keyOf_int_mk Tryz.underlying3 hj.wf
  cases mb with
  | none =>
    have hf : fat f j = none := by unfold fat; split; rfl; exact h _
    have hc := Tryz.keyI.check w true hkey
    unfold Runs execOp
    simp [ho, hx, hy, hf, Instr.lookup, run_underlying Tryz.underlying71, hc]
    rcases Tryz.keyI.find w hkey [] (by simp) with ⟨h1, _⟩ | ⟨_, _, _, h1, _⟩
    · simp [h1]
    · simp at h1
  | some b =>
    obtain ⟨n, D, _, h1, h2⟩ := h
    obtain ⟨u, ps, h3, h4⟩ := h1.look_ok Tryz.keyI Tryz.underlying71 (zeroI w) (zd := .held (.int .i64 0)) (zp := []) rfl hkey
    rw [(h2.2 j hj).2] at h4
    obtain ⟨rfl, _⟩ : u = .int .i64 ((fat f j).getD 0) ∧ ps = [] := by simpa [tok] using h4
    rw [(h2.2 j hj).1] at h3
    unfold Runs execOp
    simp [ho, hx, hy, h3]
theorem w_rlook (x y : Operand) {g N : Nat} {D : DataW Value} {m : Int → Int → Option Nat} {k v : Int} (hgd : o.guard = none) (ho : o.op = Op.lookup 108 x y false) (hx : a.eval x = .map (some g)) (hy : a.eval y = rkV k v)
    (hk : In64 k) (hv : In64 v) (h : w.ownsMap Tryz.prog 112 tok g N D) (hr : RndM D m) (kk : wpList Tryz.prog ops Q rest (a.put o.dst (.map (m k v))) w) : wpList Tryz.prog ops Q (o :: rest) a w :=
  wpList_runs hgd (runs_rlook x y ho hx hy hk hv h hr) kk
theorem w_ilook (x y : Operand) {mb : Option Nat} {f : Nat → Option Int} {j : Int} (hgd : o.guard = none) (ho : o.op = Op.lookup 71 x y true) (hx : a.eval x = .map mb) (hy : a.eval y = .int .i64 j)
    {N : Nat} (hj : In64 j) (h : InR N w mb f) {r : Option Int} (hr : fat f j = r) (kk : wpList Tryz.prog ops Q rest (a.put o.dst (.tuple #[.int .i64 (r.getD 0), .bool r.isSome])) w) : wpList Tryz.prog ops Q (o :: rest) a w := by
  subst hr
  exact wpList_runs hgd (runs_ilook x y ho hx hy hj h) kk
end
end Go.Proofs.YtajkjiegcmpjaaaGreat
namespace Go.Proofs.YtajkjiegcmpjaaaGreat
set_option maxHeartbeats 3200000
set_option maxRecDepth 100000
open Go.RowKit
def wtn (n a b : Int) : Bool := decide (a ≤ n ∧ n ≤ b)
theorem wtn_yes {n a b : Int} (h : a ≤ n ∧ n ≤ b) : wtn n a b = true := decide_eq_true h
theorem wtn_no {n a b : Int} (h : ¬ (a ≤ n ∧ n ≤ b)) : wtn n a b = false := decide_eq_false h
set_option maxHeartbeats 1600000 in
theorem Within_any {w : World} {n a b : Int} : Calls Tryz.prog 76 #[.int .i64 n, .int .i64 a, .int .i64 b] w fun e w' => e = .returned (.bool (wtn n a b)) ∧ Ext w w' := by
  refine z30z ?_
  have hX := Ext.refl w
  by_cases h1 : a ≤ n
  · by_cases h2 : n ≤ b
    · have hq := hide_ (wtn_yes ⟨h1, h2⟩)
      have t1 : decide (a ≤ n) = true := decide_eq_true h1
      have t2 : decide (n ≤ b) = true := decide_eq_true h2
      clear h1 h2
      go_enter Tryz.func76, Tryz.ntmps76
      go_wp2
      go_ret
      exact z3yz
    · have hq := hide_ (wtn_no (n := n) (a := a) (b := b) fun h => h2 h.2)
      have t1 : decide (a ≤ n) = true := decide_eq_true h1
      have t2 : decide (n ≤ b) = false := decide_eq_false h2
      clear h1 h2
      go_enter Tryz.func76, Tryz.ntmps76
      go_wp2
      go_ret
      exact z3yz
  · have hq := hide_ (wtn_no (n := n) (a := a) (b := b) fun h => h1 h.1)
    have t1 : decide (a ≤ n) = false := decide_eq_false h1
    clear h1
    go_enter Tryz.func76, Tryz.ntmps76
    go_wp2
    go_ret
    exact z3yz
theorem Leader_any {w : World} {i v n : Int} : Calls Tryz.prog 60 #[.int .i64 i, .int .i64 v, .int .i64 n] w fun e w' => e = .returned (.int .i64 (ldr i v n)) ∧ Ext w w' := by
  refine z30z ?_
  have hX := Ext.refl w
  by_cases h1 : 0 ≤ i ∧ i ≤ 1000
  · have q1 := hide_ (wtn_yes h1)
    by_cases h2 : 0 ≤ v ∧ v ≤ 1000
    · have q2 := hide_ (wtn_yes h2)
      by_cases h3 : 1 ≤ n ∧ n ≤ 7
      · have q3 := hide_ (wtn_yes h3)
        have hq := hide_ (ldr_good (show 0 ≤ i ∧ i ≤ 1000 ∧ 0 ≤ v ∧ v ≤ 1000 ∧ 1 ≤ n ∧ n ≤ 7 by omega))
        obtain ⟨h1a, h1b⟩ := h1; obtain ⟨h2a, h2b⟩ := h2; obtain ⟨h3a, h3b⟩ := h3
        go_enter Tryz.func60, Tryz.ntmps60
        go_wp2_with (first | (go_at_call 76; refine Within_any.mono ?_; rintro e w4 ⟨rfl, hx⟩; (first | rw [q1.out] | rw [q2.out] | rw [q3.out]); replace hX := hX.trans hx; clear hx) | fail)
        go_ret
        exact z3yz
      · have q3 := hide_ (wtn_no h3)
        have hq := hide_ (ldr_bad (i := i) (v := v) (n := n) fun h => h3 ⟨h.2.2.2.2.1, h.2.2.2.2.2⟩)
        clear h1 h2 h3
        go_enter Tryz.func60, Tryz.ntmps60
        go_wp2_with (first | (go_at_call 76; refine Within_any.mono ?_; rintro e w4 ⟨rfl, hx⟩; (first | rw [q1.out] | rw [q2.out] | rw [q3.out]); replace hX := hX.trans hx; clear hx) | fail)
        go_ret
        exact z3yz
    · have q2 := hide_ (wtn_no h2)
      have hq := hide_ (ldr_bad (i := i) (v := v) (n := n) fun h => h2 ⟨h.2.2.1, h.2.2.2.1⟩)
      clear h1 h2
      go_enter Tryz.func60, Tryz.ntmps60
      go_wp2_with (first | go_big_skip | (go_at_call 76; refine Within_any.mono ?_; rintro e w4 ⟨rfl, hx⟩; (first | rw [q1.out] | rw [q2.out]); replace hX := hX.trans hx; clear hx) | fail)
      go_ret
      exact z3yz
  · have q1 := hide_ (wtn_no h1)
    have hq := hide_ (ldr_bad (i := i) (v := v) (n := n) fun h => h1 ⟨h.1, h.2.1⟩)
    clear h1
    go_enter Tryz.func60, Tryz.ntmps60
    go_wp2_with (first | go_big_skip | (go_at_call 76; refine Within_any.mono ?_; rintro e w4 ⟨rfl, hx⟩; rw [q1.out]; replace hX := hX.trans hx; clear hx) | fail)
    go_ret
    exact z3yz
theorem Patience_any {w : World} {v b m : Int} (hvI : v ≤ 9223372036854775807) : Calls Tryz.prog 75 #[.int .i64 v, .int .i64 b, .int .i64 m] w fun e w' => e = .returned (.int .i64 (pat v b m)) ∧ Ext w w' := by
  refine z30z ?_
  have hX := Ext.refl w
  by_cases h1 : 1 ≤ m ∧ m ≤ 1000
  · have q1 := hide_ (wtn_yes h1)
    by_cases h0 : v < 0
    · have d0 : decide (v < 0) = true := decide_eq_true h0
      have hq := hide_ (pat_cap (v := v) (b := b) h1 fun h => by omega)
      clear h0 h1 hvI
      go_enter Tryz.func75, Tryz.ntmps75
      go_wp2_with (first | go_big_skip | (go_at_call 76; refine Within_any.mono ?_; rintro e w4 ⟨rfl, hx⟩; rw [q1.out]; replace hX := hX.trans hx; clear hx) | fail)
      go_ret
      exact z3yz
    have d0 : decide (v < 0) = false := decide_eq_false h0
    by_cases h2 : 1 ≤ b ∧ b ≤ 100
    · have q2 := hide_ (wtn_yes h2)
      have hend := hide_ (fun (y : Int) (k : Nat) => pat_end (v := v) (b := b) (m := m) (y := y) (k := k) h1 ⟨by omega, h2⟩)
      have hpos := hide_ (grw_pos h2.1)
      obtain ⟨h1a, h1b⟩ := h1
      have hb0 := hide_ (show 0 < b ∧ b ≤ 2000 by omega)
      have hv0 := hide_ (show 0 ≤ v by omega)
      have hvI' := hide_ hvI
      clear h2 h0 hvI
      go_enter Tryz.func75, Tryz.ntmps75
      go_wp2_with (first | (go_at_call 76; refine Within_any.mono ?_; rintro e w4 ⟨rfl, hx⟩; (first | rw [q1.out] | rw [q2.out]); replace hX := hX.trans hx; clear hx) | fail)
      clear d0
      go_loopw [0, 7] (fun r y wr => ∃ (z x : Int) (k : Nat), r = .int .i64 z ∧ y = .int .i64 x ∧ Hid (z = v - k) ∧ Hid (x = grw b k) ∧ 0 ≤ z ∧ z ≤ 9223372036854775807 ∧ 0 < x ∧ x ≤ 2000 ∧ Ext w wr) (fun r _ _ => (RowKit.intOf r).toNat)
      case atStart => exact ⟨v, b, 0, rfl, rfl, hide_ (by simp), hide_ (by rw [grw_zero]), hv0.out, hvI'.out, hb0.out.1, hb0.out.2, hX⟩
      case round =>
        clear hX
        obtain ⟨z, x, k, rfl, rfl, hz, hx, hz0, hzI, hx0, hx1, hX⟩ := hrel
        by_cases hc : 0 < z
        · have d1 : decide (0 < z) = true := decide_eq_true hc
          by_cases hc2 : x < m
          · have d2 : decide (x < m) = true := decide_eq_true hc2
            go_wp2
            go_roundw
            case rel => exact ⟨z - 1, x * 2, k + 1, rfl, rfl, hide_ (by have := hz.out; omega), hide_ (by rw [grw_succ, ← hx.out]), by omega, by omega, by omega, by omega, hX⟩
            case measure => simp [RowKit.intOf]; omega
          · have d2 : decide (x < m) = false := decide_eq_false hc2
            obtain ⟨r, hr0⟩ : ∃ r, min x m = r := ⟨_, rfl⟩
            have hr := hide_ hr0
            have hq := hide_ (show pat v b m = r from by rw [← hr0]; exact hend.out x k (by have := hz.out; omega) hx.out (.inr (by omega)))
            clear hc hc2 hr0
            go_wp2_with ((first | ((with_reducible refine at_bi ?_); refine w_min _ _ r hr.out.symm rfl rfl rfl rfl ?_) | fail) <;> (try refine z1z ?_))
            go_ret
            exact z3yz
        · have d1 : decide (0 < z) = false := decide_eq_false hc
          obtain ⟨r, hr0⟩ : ∃ r, min x m = r := ⟨_, rfl⟩
          have hr := hide_ hr0
          have hq := hide_ (show pat v b m = r from by rw [← hr0]; exact hend.out x k (by have := hz.out; omega) hx.out (.inl (by have := hz.out; omega)))
          clear hc hr0
          go_wp2_with ((first | go_big_skip | ((with_reducible refine at_bi ?_); refine w_min _ _ r hr.out.symm rfl rfl rfl rfl ?_) | fail) <;> (try refine z1z ?_))
          go_ret
          exact z3yz
    · have q2 := hide_ (wtn_no h2)
      have hq := hide_ (pat_cap (v := v) (b := b) h1 fun h => h2 h.2)
      clear h0 h1 h2 hvI
      go_enter Tryz.func75, Tryz.ntmps75
      go_wp2_with (first | (go_at_call 76; refine Within_any.mono ?_; rintro e w4 ⟨rfl, hx⟩; (first | rw [q1.out] | rw [q2.out]); replace hX := hX.trans hx; clear hx) | fail)
      go_ret
      exact z3yz
  · have q1 := hide_ (wtn_no h1)
    have hq := hide_ (pat_bad (v := v) (b := b) h1)
    clear h1 hvI
    go_enter Tryz.func75, Tryz.ntmps75
    go_wp2_with (first | (go_at_call 76; refine Within_any.mono ?_; rintro e w4 ⟨rfl, hx⟩; rw [q1.out]; replace hX := hX.trans hx; clear hx) | fail)
    go_ret
    exact z3yz
end Go.Proofs.YtajkjiegcmpjaaaGreat
namespace Go.Proofs.YtajkjiegcmpjaaaGreat
set_option maxRecDepth 100000
open Go.RowKit
section
variable {P : Program} {ops : Array Oper} {rest : List Oper} {o : Oper} {a : Act} {Q : Exit → Act → World → Prop} {w : World} {t : TypeId} {n : Nat} {zs : List Value}
theorem runs_fieldB {ρ : Operand → Value} {i off b c : Nat} (hB : fieldB P t i off = true) (hc : c = b + off) (x : Operand) (g : Nat) (ho : o.op = .fieldAddr t x i) (hx : ρ x = .pointer (some ⟨g, b, none⟩)) : Runs P o ρ w (.pointer (some ⟨g, c, none⟩)) := by
  subst hc
  unfold fieldB at hB
  cases hu : P.underlying t with
  | none => rw [hu] at hB; cases hB
  | some u =>
    rw [hu] at hB
    cases u <;> try cases hB
    rename_i fs
    simp only at hB
    cases hfi : fs[i]? with
    | none => rw [hfi] at hB; cases hB
    | some f =>
      rw [hfi] at hB
      simp only [Bool.and_eq_true, beq_iff_eq] at hB
      obtain ⟨h1, h2⟩ := hB
      cases hq : P.info? f.type with
      | none => rw [hq] at h2; cases h2
      | some j =>
        have h3 : j.size ≠ 0 := by rw [hq] at h2; simpa using h2
        unfold Runs execOp
        have hadd : (⟨g, b, none⟩ : Addr).add off = ⟨g, b + off, none⟩ := by unfold Addr.add; split <;> simp_all
        simp [ho, hx, Instr.fieldAt, Instr.sureAddr, run_underlying hu, hfi, fieldPlace, sizeOf, typeInfo, hq, h1, hadd, h3]
theorem w_fieldB {i off b c : Nat} (hB : fieldB P t i off = true) (hc : c = b + off) (x : Operand) (g : Nat) (hgd : o.guard = none) (ho : o.op = .fieldAddr t x i) (hx : a.eval x = .pointer (some ⟨g, b, none⟩))
    (k : wpList P ops Q rest (a.put o.dst (.pointer (some ⟨g, c, none⟩))) w) : wpList P ops Q (o :: rest) a w := wpList_runs hgd (runs_fieldB hB hc x g ho hx) k
theorem part_at {cs us : List Value} {off n : Nat} (h : (cs.drop off).take n = us) : ∀ (j : Nat) (u : Value), us[j]? = some u → cs[off + j]? = some u := by
  intro j u hj
  subst h
  rw [List.getElem?_take] at hj
  split at hj
  · rwa [List.getElem?_drop] at hj
  · cases hj
theorem runs_loadB {ρ : Operand → Value} (E : StN P t n zs) (x : Operand) {g off : Nat} {cs us : List Value} (ho : o.op = .load t x) (hx : ρ x = .pointer (some ⟨g, off, none⟩)) (h : Fs w g cs) (hus : (cs.drop off).take n = us) (hl : us.length = n) : Runs P o ρ w (.agg us.toArray) :=
  runs_loadN E x ho hx h hl (part_at hus)
theorem w_loadB (E : StN P t n zs) (x : Operand) {g off : Nat} {cs : List Value} (us : List Value) (hgd : o.guard = none) (ho : o.op = .load t x) (hx : a.eval x = .pointer (some ⟨g, off, none⟩)) (h : Fs w g cs) (hus : (cs.drop off).take n = us) (hl : us.length = n)
    (k : wpList P ops Q rest (a.put o.dst (.agg us.toArray)) w) : wpList P ops Q (o :: rest) a w := wpList_runs hgd (runs_loadB E x ho hx h hus hl) k
theorem w_storeB (E : StN P t n zs) (x y : Operand) {g off : Nat} {pre old us post : List Value} (hgd : o.guard = none) (ho : o.op = .store t x y) (hd : o.dst = none) (hx : a.eval x = .pointer (some ⟨g, off, none⟩)) (hy : a.eval y = .agg us.toArray) (h : Fs w g (pre ++ old ++ post)) (hp : pre.length = off) (hl : old.length = n) (hl' : us.length = n) (h1 : ∀ u ∈ us, u.oneCell' = true)
    (k : ∀ w', Mod (fun k => k = g) w w' → Fs w' g (pre ++ us ++ post) → wpList P ops Q rest a w') : wpList P ops Q (o :: rest) a w := by
  obtain ⟨i0, hi, _, hs⟩ := E.info
  refine wpList_plain hgd fun K hK => ?_
  have hr := run_storeCells_cells (P := P) g off us 0 w (fun j hj => by
    have hj' : off + j < (pre ++ old ++ post).length := by simp; omega
    have := h.cell (List.getElem?_eq_getElem hj')
    simp at this
    simp [this]) (fun j _ => by simpa using h.frozen _) h1
  have hk := hK _ _ (k _ (setCells_mod us off w g) (setCells_fs us off h hp (by omega)))
  have hadd : ∀ j, (⟨g, off, none⟩ : Addr).add j = ⟨g, off + j, none⟩ := fun j => by unfold Addr.add; split <;> simp_all
  unfold Oper.wp execOp
  simp only [ho, hx, hy, Sem.run_bind, Instr.storeAt, storeVar, Instr.sureAddr, Sem.run_pure, Result.andThen_ok, sizeOf, typeInfo]
  simp [hi, hs, hl', Value.cells]
  simp at hr
  simp [hr, Oper.upon, hd, Act.put]
  exact hk
end
section
variable {P : Program} {ops : Array Oper} {rest : List Oper} {o : Oper} {a : Act} {Q : Exit → Act → World → Prop} {w : World}
end
def prV (p : Int × Int) : Value := .agg #[.int .i64 p.1, .int .i64 p.2]
def PrM (D : DataW Value) (f : Int → Option (Int × Int)) : Prop :=
  Maps.IsMap D ∧ (∀ j : Int, In64 j → Maps.has D (.int .i64 j) = (f j).isSome ∧ D.atKey (.int .i64 j) (.held (prV (0, 0))) = .held (prV ((f j).getD (0, 0)))) ∧ ∀ j, f j ≠ none → 0 ≤ j ∧ j ≤ 1000
theorem PrM.nil : PrM (.map []) fun _ => none := ⟨Maps.isMap_empty, fun _ _ => ⟨rfl, rfl⟩, fun _ h => absurd rfl h⟩
theorem PrM.put {D : DataW Value} {f : Int → Option (Int × Int)} (h : PrM D f) (i : Int) (hi : 0 ≤ i ∧ i ≤ 1000) (x : Int × Int) : PrM (D.put (.int .i64 i) (.held (prV x))) fun j => if j = i then some x else f j := by
  refine ⟨h.1.put _ _, fun j hj => ?_, fun j hj => ?_⟩
  · by_cases e : j = i
    · subst e
      rw [Maps.has_put_same h.1 (by trivial), Maps.atKey_put_same h.1 (by trivial)]
      simp
    · rw [Maps.has_put_other (litI_ne e), Maps.atKey_put_other (litI_ne e)]
      simp only [if_neg e]
      exact h.2.1 j hj
  · simp only at hj
    split at hj
    · rename_i e; rw [e]; exact hi
    · exact h.2.2 j hj
def SdM (D : DataW Value) (n : Nat) (f : Nat → Option Int) : Prop := InM D f ∧ ∀ i, f i ≠ none → i < n
theorem own_tight {H : Type} {w : World} {k : TypeId} {R : Value → Option (DataW H × List MemPlace)} {b n : Nat} {D : DataW H} (h : w.ownsMap Tryz.prog k R b n D) : w.ownsMap Tryz.prog k R b (Maps.size D) D := by
  obtain ⟨es, clock, hb, F, hs, rfl⟩ := h
  exact ⟨es, clock, hb, F, by simp [Maps.size, length_sorted], rfl⟩
end Go.Proofs.YtajkjiegcmpjaaaGreat
namespace Go.Proofs.YtajkjiegcmpjaaaGreat
set_option maxRecDepth 100000
open Go.RowKit
section
variable {P : Program} {ops : Array Oper} {a : Act} {w : World} {r : List Sp} {o : Oper}
theorem given1 {t j : Nat} {v : Value} {σ : Act} {w' : World} (hg : Given a r σ w' [(t, some j)]) (hs : r.getD j (.val undef) = .val v) : σ.tmps.getD t undef = v := by
  have h := hg.1
  rw [hs] at h
  exact h
theorem given0 {t : Nat} {v : Value} {σ : Act} {w' : World} (hg : Given a r σ w' [(t, none)]) (hv : a.tmps.getD t undef = v) : σ.tmps.getD t undef = v := by
  have h := hg.1
  rw [hv] at h
  exact h
theorem LinL.st {lo : Nat} {R : List Sp → Prop} {f i : Nat} (reads : List (Tmp × Option Nat)) {s : Sp} (h1 : ops[lo + i]? = some o) (h4 : opOk P ops a w r o reads s) (h5 : LinL P ops a w lo R f (i + 1) (s :: r))
    (h2 : (readsOkL ops lo i (conv i reads) && reads.all fun x => match x.2 with | some k => decide (k < i) | none => true) = true := by kernel_rfl) : LinL P ops a w lo R (f + 1) i r := LinL.step reads h1 h2 h4 h5
theorem opmv (v : Value) {t : Nat} (h3 : o.guard = none := by exact rfl) (h4 : (o.op = .move (.tmp t) ∨ o.op = .assign (.tmp t)) := by first | exact .inl rfl | exact .inr rfl) (hv : a.tmps.getD t undef = v := by exact rfl) : opOk P ops a w r o [(t, none)] (.val v) := op_out t v h3 h4 hv
theorem opcp (s : Sp) {t j : Nat} (h3 : o.guard = none := by exact rfl) (h4 : (o.op = .move (.tmp t) ∨ o.op = .assign (.tmp t)) := by first | exact .inl rfl | exact .inr rfl) (hs : r.getD j (.val undef) = s := by exact rfl) : opOk P ops a w r o [(t, some j)] s := op_copy t j s h3 h4 hs
theorem opfb (i' off c g : Nat) {t j b : Nat} {ty : TypeId} (h3 : o.guard = none := by exact rfl) (h4 : o.op = .fieldAddr ty (.tmp t) i' := by exact rfl) (hs : r.getD j (.val undef) = .val (.pointer (some ⟨g, b, none⟩)) := by exact rfl) (hc : c = b + off := by exact rfl) (hB : fieldB P ty i' off = true := by kernel_rfl) :
    opOk P ops a w r o [(t, some j)] (.val (.pointer (some ⟨g, c, none⟩))) :=
  op_runs h3 fun σ w' _ hg => ⟨_, runs_fieldB (ρ := σ.eval) (w := w') hB hc (.tmp t) g h4 (given1 hg hs), rfl⟩
theorem opfo (i' off c g : Nat) {t b : Nat} {ty : TypeId} (h3 : o.guard = none := by exact rfl) (h4 : o.op = .fieldAddr ty (.tmp t) i' := by exact rfl) (hv : a.tmps.getD t undef = .pointer (some ⟨g, b, none⟩) := by exact rfl) (hc : c = b + off := by exact rfl) (hB : fieldB P ty i' off = true := by kernel_rfl) :
    opOk P ops a w r o [(t, none)] (.val (.pointer (some ⟨g, c, none⟩))) :=
  op_runs h3 fun σ w' _ hg => ⟨_, runs_fieldB (ρ := σ.eval) (w := w') hB hc (.tmp t) g h4 (given0 hg hv), rfl⟩
theorem opnl {A : Addr} {t j : Nat} (h3 : o.guard = none := by exact rfl) (h4 : o.op = .nilCheck (.tmp t) := by exact rfl) (hs : r.getD j (.val undef) = .val (.pointer (some A)) := by exact rfl) : opOk P ops a w r o [(t, some j)] (.val (.pointer (some A))) :=
  op_runs h3 fun σ w' _ hg => ⟨_, runs_nil (ρ := σ.eval) (w := w') (.tmp t) h4 (given1 hg hs), rfl⟩
theorem opld (v : Value) {g k : Nat} {cs : List Value} (h : Fs w g cs) {t j : Nat} {ty : TypeId} (h3 : o.guard = none := by exact rfl) (h4 : o.op = .load ty (.tmp t) := by exact rfl) (hs : r.getD j (.val undef) = .val (.pointer (some ⟨g, k, none⟩)) := by exact rfl) (hi : cs[k]? = some v := by exact rfl) (ha : ∀ w, (isAgg ty).run P w = .ok false w := by exact agg_of (by kernel_rfl)) :
    opOk P ops a w r o [(t, some j)] (.val v) :=
  op_runs h3 fun σ w' hx hg => ⟨_, runs_fload (ρ := σ.eval) (w := w') (.tmp t) h4 (given1 hg hs) (ha w') (h.ext hx) hi, rfl⟩
end
section
variable {ops : Array Oper} {a : Act} {w : World} {r : List Sp} {o : Oper}
theorem opmf (g k c : Nat) {t : Nat} (h3 : o.guard = none := by exact rfl) (h4 : o.op = .fieldAddr 42 (.tmp t) k := by exact rfl) (hv : a.tmps.getD t undef = .pointer (some ⟨g, 0, none⟩) := by exact rfl) (hc : mOff k = c := by exact rfl) (hk : k < 8 := by omega) : opOk Tryz.prog ops a w r o [(t, none)] (.val (.pointer (some ⟨g, c, none⟩))) := by
  subst hc
  exact op_runs h3 fun σ w' _ hg => ⟨_, runs_mfield (ρ := σ.eval) (w := w') (.tmp t) g k h4 (given0 hg hv) hk, rfl⟩
end
end Go.Proofs.YtajkjiegcmpjaaaGreat
namespace Go.Proofs.YtajkjiegcmpjaaaGreat
set_option maxRecDepth 100000
open Go.RowKit
section
variable {P : Program} {ops : Array Oper} {rest : List Oper} {a : Act} {Q : Exit → Act → World → Prop} {w : World} {d : Option Tmp} {ty t : TypeId} {pos : String} {af : Array Edge} {gd : Option (Nat × Bool)} {x y : Operand} {c : Bool}
theorem at_look (h : wpList P ops Q (⟨d, .lookup t x y c, ty, pos, af, gd⟩ :: rest) a w) : wpList P ops Q (⟨d, .lookup t x y c, ty, pos, af, gd⟩ :: rest) a w := h
theorem at_mkm {z : Option Operand} (h : wpList P ops Q (⟨d, .makeMap t z, ty, pos, af, gd⟩ :: rest) a w) : wpList P ops Q (⟨d, .makeMap t z, ty, pos, af, gd⟩ :: rest) a w := h
end
section
variable {ops : Array Oper} {rest : List Oper} {o : Oper} {a : Act} {Q : Exit → Act → World → Prop} {w : World}
theorem w_mkround {t : TypeId} (hgd : o.guard = none) (ho : o.op = Op.makeMap t none)
    (k : ∀ g w', w.heap.size ≤ g → Ext w w' → w'.ownsMap Tryz.prog 112 tok g 0 (.map []) → wpList Tryz.prog ops Q rest (a.put o.dst (.map (some g))) w') : wpList Tryz.prog ops Q (o :: rest) a w := by
  refine wpList_plain hgd fun K hK => ?_
  have hk := hK _ _ (k w.heap.size (w.alloc (.map #[] 0)) (Nat.le_refl _) ((Ext.refl w).alloc _) (World.ownsMap_made w Tryz.prog 112 tok))
  unfold Oper.wp execOp
  simp [ho, run_makeMap, Result.andThen]
  exact hk
theorem w_mput {k e : TypeId} (K : Maps.Keyed Tryz.prog k) {t : TypeId} (ht : Tryz.prog.underlying t = some (.map k e)) (x y z : Operand) {g n : Nat} {D : DataW Value} {key val : Value} {kl : Go.Lit} (hgd : o.guard = none) (ho : o.op = Op.mapUpdate t x y z) (hd : o.dst = none)
    (hx : a.eval x = .map (some g)) (hy : a.eval y = key) (hz : a.eval z = val) (h : w.ownsMap Tryz.prog k tok g n D) (hn : n ≤ 1000000) (hkey : keyOf Tryz.prog k key = some kl)
    (kk : ∀ w', Mod (fun j => j = g) w w' → w'.ownsMap Tryz.prog k tok g (n + 1) (D.put kl (.held val)) → wpList Tryz.prog ops Q rest a w') : wpList Tryz.prog ops Q (o :: rest) a w := by
  refine wpList_mapUpdate_own w hgd x y z t ho k e K ht tok g n D hx h (by unfold maxLen; omega) key val kl hy hz hkey (.held val) [] rfl ?_
  intro w' h1 h2
  rw [hd]
  exact kk w' ⟨h2.os, h2.tape, h2.output, h2.size, fun j hj hne => h2.block j hj fun e => hne (by injection e)⟩ h1
end
def Sp.nmap (lo : Nat) : Sp := .any (fun v w => ∃ b, v = .map (some b) ∧ lo ≤ b ∧ b < w.heap.size ∧ w.ownsMap Tryz.prog 3 tok b 0 (.map [])) fun _ _ _ ⟨b, h1, h2, h3, h4⟩ he => ⟨b, h1, h2, Nat.lt_of_lt_of_le h3 he.size, ownsMap_ext h4 he⟩
theorem op_mkmap {ops : Array Oper} {a : Act} {w : World} {r : List Sp} {o : Oper} {t : TypeId} {lo : Nat} (hle : lo ≤ w.heap.size) (hgd : o.guard = none) (ho : o.op = .makeMap t none) : opOk Tryz.prog ops a w r o [] (Sp.nmap lo) := by
  intro σ w' hx hg
  rw [if_pos (wanted_none hgd _)]
  unfold Oper.wp execOp
  simp [ho, run_makeMap, Result.andThen]
  exact ⟨_, rfl, (Ext.refl _).alloc _, _, rfl, Nat.le_trans hle hx.size, by simp, World.ownsMap_made w' Tryz.prog 3 tok⟩
theorem eqlSome (b : Nat) (w : World) : (binOp .eql 71 (.map (some b)) (.map none)).run Tryz.prog w = .ok (.bool false) w := by kernel_rfl
theorem eqlNil (w : World) : (binOp .eql 71 (.map none) (.map none)).run Tryz.prog w = .ok (.bool true) w := by kernel_rfl
theorem runs_mnil {o : Oper} {ρ : Operand → Value} {w : World} (x : Operand) {mb : Option Nat} (ho : o.op = .binOp .eql 71 x (.const (.map none)) 71) (hx : ρ x = .map mb) (hc : ρ (.const (.map none)) = .map none) : Runs Tryz.prog o ρ w (.bool mb.isNone) := by
  unfold Runs execOp
  cases mb <;> simp [ho, hx, hc, eqGuard, eqlSome, eqlNil]
set_option maxHeartbeats 1600000 in
theorem TNew_any {w : World} {v : Value} {t : List Int} (h0 : Ints w v t) (ht : StOk t) :
    Calls Tryz.prog 43 #[v] w fun e w' => ∃ p, e = .returned (.pointer (some ⟨p, 0, none⟩)) ∧ Tal (fun k => w.heap.size ≤ k ∧ k < w'.heap.size) w' p t (fun _ _ _ => none) 0 ∧ Ext w w' := by
  refine z30z ?_
  have hr := hide_ h0
  have hok := hide_ ht
  have hl8 := hide_ (show t.length * 8 ≤ 140737488355328 from by have := ht.2.1; omega)
  clear h0 ht
  go_enter Tryz.func43, Tryz.ntmps43
  go_wp2_with ((first | (go_at_call 24; refine (IClone_any hr.out hl8.out).mono ?_; rintro e w2 ⟨v2, rfl, o2, hX⟩; have hb2 := hide_ (show ∀ k, v2.ownBlock = some k → k < w2.heap.size from fun k hk => (own_block_lt (g := k) o2 hk).2)) | ((with_reducible refine at_mkm ?_); refine w_mkround rfl rfl ?_; intro g w3 hg hx m3; replace o2 := o2.ext hx; have hs2 := hX.size; replace hX := hX.trans hx; clear hx) | ((with_reducible refine at_sbuild ?_); refine w_sbuild Tryz.stTal [v2, .map (some g)] rfl rfl rfl (by intro x hx; simp at hx; rcases hx with rfl | rfl; exact ⟨by decide, oneCell_cells (Sl.one' o2.ints)⟩; exact ⟨by decide, rfl⟩) ?_) | ((with_reducible refine at_box ?_); refine w_box _ [v2, .map (some g)] rfl rfl rfl rfl ?_; intro p w4 hp hx f4; replace o2 := o2.ext hx; have hg3 := m3.lt; replace m3 := ownsMap_ext m3 hx; have hs3 := hX.size; have hs4 := hx.size; replace hX := hX.trans hx; clear hx) | fail) <;> (try refine z1z ?_))
  go_ret
  have hpl := f4.lt
  refine Keep.intro ⟨p, rfl, ⟨v2, g, _, fun _ _ => none, f4, o2.ints, fun k hk => ?_, ⟨⟨by omega, hpl⟩, ⟨by omega, by omega⟩, by omega⟩, m3, RndM.nil, fun _ _ _ => rfl, fun _ _ _ h => (nomatch h), fun _ _ _ _ h => (nomatch h), hok.out⟩, hX⟩
  have h1 := own_block_lt (g := k) o2 hk
  have h2 := hb2.out k hk
  exact ⟨⟨h1.1, h1.2⟩, h1.2, by omega, by omega⟩
def CanB (k w x : Int) : Prop := (k = 4 ∨ k = 5) ∧ (0 ≤ w ∧ w ≤ 1000) ∧ -1 ≤ x
instance (k w x : Int) : Decidable (CanB k w x) := by unfold CanB; infer_instance
theorem canB_eq (k w x : Int) : decide (CanB k w x) = ((k == 4 || k == 5) && decide (0 ≤ w) && decide (w ≤ 1000) && decide (-1 ≤ x)) := by
  rw [Bool.eq_iff_iff, decide_eq_true_iff]
  unfold CanB
  simp only [decide_eq_true_eq, Bool.and_eq_true, Bool.or_eq_true, beq_iff_eq]
  constructor
  · rintro ⟨h1, ⟨h2, h3⟩, h4⟩; exact ⟨⟨⟨h1, h2⟩, h3⟩, h4⟩
  · rintro ⟨⟨⟨h1, h2⟩, h3⟩, h4⟩; exact ⟨h1, ⟨h2, h3⟩, h4⟩
set_option maxHeartbeats 1600000 in
theorem canBe_any (k v x : Int) (w : World) : Calls Tryz.prog 61 #[.int .i64 k, .int .i64 v, .int .i64 x] w fun e w' => e = .returned (.bool (decide (CanB k v x))) ∧ w' = w := by
  refine z30z ?_
  rw [canB_eq]
  cases c1 : (k == 4) <;> cases c2 : (k == 5) <;> cases c3 : decide (0 ≤ v) <;> cases c4 : decide (v ≤ 1000) <;> cases c5 : decide (-1 ≤ x)
  all_goals (
    go_enter Tryz.func61, Tryz.ntmps61
    go_wp2
    go_ret
    exact Keep.intro ⟨rfl, rfl⟩)
set_option maxHeartbeats 1600000 in
theorem TVote_any {X : Nat → Prop} {w : World} {p : Nat} {t : List Int} {T : Tab} {N : Nat} {k v j : Int} (h0 : Tal X w p t T N) (hk : In64 k) (hv : In64 v) (hj : In64 j) {r : Option Int} (hr : fat (T k v) j = r) :
    Calls Tryz.prog 41 #[.pointer (some ⟨p, 0, none⟩), .int .i64 k, .int .i64 v, .int .i64 j] w fun e w' => e = .returned (.tuple #[.int .i64 (r.getD 0), .bool r.isSome]) ∧ w' = w := by
  refine z30z ?_
  obtain ⟨sv, g, D, m, h⟩ := h0
  have f0 := hide_ h.obj
  have hown := hide_ h.own
  have hrnd := hide_ h.rnd
  have hin := hide_ (h.inn k v)
  have hk' := hide_ hk
  have hv' := hide_ hv
  have hj' := hide_ hj
  have hr' := hide_ hr
  clear h hk hv hj hr
  go_enter Tryz.func41, Tryz.ntmps41
  go_wp2_with ((first | ((with_reducible refine at_field ?_); refine w_field Tryz.stTal _ _ _ rfl rfl rfl (by omega) ?_; (try simp only [Act.put, List.setIfInBounds_toArray, List.set_cons_zero, List.set_cons_succ])) | ((with_reducible refine at_load ?_); refine w_fload _ rfl rfl rfl f0.out rfl (agg_of (by kernel_rfl)) ?_; (try simp only [Act.put, List.setIfInBounds_toArray, List.set_cons_zero, List.set_cons_succ])) | ((with_reducible refine at_sbuild ?_); refine w_sbuild Tryz.stRnd [.int .i64 k, .int .i64 v] rfl rfl rfl (by intro x hx; simp at hx; rcases hx with rfl | rfl; exact ⟨by decide, rfl⟩; exact ⟨by decide, rfl⟩) ?_; (try simp only [Act.put, List.setIfInBounds_toArray, List.set_cons_zero, List.set_cons_succ])) | ((with_reducible refine at_look ?_); refine w_rlook _ _ rfl rfl rfl rfl hk'.out hv'.out hown.out hrnd.out ?_; (try simp only [Act.put, List.setIfInBounds_toArray, List.set_cons_zero, List.set_cons_succ])) | ((with_reducible refine at_look ?_); refine w_ilook _ _ rfl rfl rfl rfl hj'.out hin.out hr'.out ?_; (try simp only [Act.put, List.setIfInBounds_toArray, List.set_cons_zero, List.set_cons_succ])) | fail) <;> (try refine z1z ?_))
  go_ret2
  exact Keep.intro ⟨rfl, rfl⟩
end Go.Proofs.YtajkjiegcmpjaaaGreat
