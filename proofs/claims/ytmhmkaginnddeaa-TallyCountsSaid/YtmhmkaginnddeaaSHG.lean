/- Rising lists of numbers, as plain mathematics. No program. · Maps as they stand in memory. · The contracts of the library on slices.Sorted, Sort and Compact, laid over this program. · Numbers sorted, each once. · A list of numbers, once more. -/
import Derived.Test.YtmhmkaginnddeaaFA
import Derived.Test.YtmhmkaginnddeaaFB
import Derived.Maps.RangeWalk
import Derived.Maps.OwnSet
import Derived.Shelf.SlIterI.Nil
import Derived.Shelf.SortM.Plain
import Derived.Shelf.SortM.SortNone
import Derived.Shelf.SlicesG.CompactI
import Derived.Test.YtmhmkaginnddeaaFD
namespace Go.Proofs.Ytmhmkaginnddeaa
set_option maxRecDepth 100000

/-- A rising list with one more number, each once. -/
def ins : List Int → Int → List Int
  | [], n => [n]
  | x :: l, n => if n < x then n :: x :: l else if n = x then x :: l else x :: ins l n
theorem mem_ins : ∀ {l : List Int} {n x : Int}, x ∈ ins l n ↔ x = n ∨ x ∈ l
  | [], n, x => by simp [ins]
  | y :: l, n, x => by
    unfold ins
    split
    · simp
    · split
      · rename_i h; subst h; simp
      · simp only [List.mem_cons, mem_ins (l := l)]
        constructor
        · rintro (h | h | h) <;> simp [h]
        · rintro (h | h | h) <;> simp [h]
/-- Rising, each once. -/
def Rise (l : List Int) : Prop := l.Pairwise (· < ·)
theorem Rise.ins : ∀ {l : List Int} {n : Int}, Rise l → Rise (ins l n)
  | [], n, _ => by simp [Rise, Go.Proofs.Ytmhmkaginnddeaa.ins]
  | y :: l, n, h => by
    unfold Rise at h
    obtain ⟨h1, h2⟩ := List.pairwise_cons.1 h
    unfold Go.Proofs.Ytmhmkaginnddeaa.ins Rise
    split
    · rename_i hlt
      refine List.pairwise_cons.2 ⟨fun x hx => ?_, h⟩
      rcases List.mem_cons.1 hx with rfl | hx
      · exact hlt
      · have := h1 x hx; omega
    · split
      · exact h
      · refine List.pairwise_cons.2 ⟨fun x hx => ?_, Rise.ins (l := l) h2⟩
        rcases mem_ins.1 hx with rfl | hx
        · omega
        · exact h1 x hx
/-- Two rising lists of the same numbers are one. -/
theorem Rise.eq : ∀ {l m : List Int}, Rise l → Rise m → (∀ x, x ∈ l ↔ x ∈ m) → l = m
  | [], [], _, _, _ => rfl
  | [], y :: m, _, _, h => by have := (h y).2 (List.mem_cons_self ..); simp at this
  | x :: l, [], _, _, h => by have := (h x).1 (List.mem_cons_self ..); simp at this
  | x :: l, y :: m, h1, h2, h => by
    obtain ⟨a1, a2⟩ := List.pairwise_cons.1 h1
    obtain ⟨b1, b2⟩ := List.pairwise_cons.1 h2
    have hxy : x = y := by
      have hx := (h x).1 (List.mem_cons_self ..)
      have hy := (h y).2 (List.mem_cons_self ..)
      rcases List.mem_cons.1 hx with e | hx
      · exact e
      · rcases List.mem_cons.1 hy with e | hy
        · exact e.symm
        · have := b1 x hx; have := a1 y hy; omega
    subst hxy
    rw [Rise.eq (l := l) (m := m) a2 b2 fun z => ?_]
    constructor
    · intro hz
      have := (h z).1 (List.mem_cons_of_mem _ hz)
      rcases List.mem_cons.1 this with e | e
      · have := a1 z hz; omega
      · exact e
    · intro hz
      have := (h z).2 (List.mem_cons_of_mem _ hz)
      rcases List.mem_cons.1 this with e | e
      · have := b1 z hz; omega
      · exact e
/-- Many numbers, rising, each once. -/
def rise (l : List Int) : List Int := l.foldl ins []
theorem mem_foldl_ins : ∀ {l a : List Int} {x : Int}, x ∈ l.foldl ins a ↔ x ∈ a ∨ x ∈ l
  | [], a, x => by simp
  | y :: l, a, x => by
    rw [List.foldl_cons, mem_foldl_ins (l := l), mem_ins, List.mem_cons]
    constructor
    · rintro ((h | h) | h) <;> simp [h]
    · rintro (h | h | h) <;> simp [h]
theorem mem_rise {l : List Int} {x : Int} : x ∈ rise l ↔ x ∈ l := by rw [rise, mem_foldl_ins]; simp
theorem Rise.foldl : ∀ {l a : List Int}, Rise a → Rise (l.foldl Go.Proofs.Ytmhmkaginnddeaa.ins a)
  | [], _, h => h
  | _ :: l, _, h => Rise.foldl (l := l) h.ins
theorem rise_rise (l : List Int) : Rise (rise l) := Rise.foldl List.Pairwise.nil
theorem ins_len : ∀ {l : List Int} {n : Int}, n ∉ l → (ins l n).length = l.length + 1
  | [], n, _ => rfl
  | y :: l, n, h => by
    have h1 : n ≠ y := fun e => h (e ▸ List.mem_cons_self ..)
    have h2 : n ∉ l := fun e => h (List.mem_cons_of_mem _ e)
    unfold ins
    split
    · rfl
    · first | rw [if_neg h1] | skip
      simp [ins_len h2]
theorem foldl_ins_len : ∀ {l a : List Int}, (∀ x ∈ l, x ∉ a) → l.Nodup → (l.foldl ins a).length = a.length + l.length
  | [], a, _, _ => rfl
  | y :: l, a, h, hn => by
    obtain ⟨h1, h2⟩ := List.nodup_cons.1 hn
    rw [List.foldl_cons, foldl_ins_len (l := l) (fun x hx hm => ?_) h2, ins_len (h y (List.mem_cons_self ..)), List.length_cons]
    · omega
    · rcases mem_ins.1 hm with rfl | hm
      · exact h1 hx
      · exact h x (List.mem_cons_of_mem _ hx) hm
theorem rise_len {l : List Int} (h : l.Nodup) : (rise l).length = l.length := by
  have := foldl_ins_len (l := l) (a := []) (by simp) h
  simpa [rise] using this
end Go.Proofs.Ytmhmkaginnddeaa
namespace Go.Proofs.Ytmhmkaginnddeaa
set_option maxRecDepth 100000
open Go.RowKit

/-- A value, as it stands. -/
def tok (v : Value) : Option (DataW Value × List MemPlace) := some (.held v, [])
theorem sameKey_int (a b : Int) : (Lit.int .i64 a).sameKey (.int .i64 b) = decide (a = b) := by simp [Lit.sameKey]
theorem atKey_find (es : List (Go.Lit × DataW Value)) (k : Go.Lit) (z : DataW Value) : (DataW.map es).atKey k z = ((es.find? fun p => p.1.sameKey k).map (·.2)).getD z := by
  unfold DataW.atKey
  simp only
  cases es.find? (fun p => p.1.sameKey k) <;> rfl
theorem ownsMap_mod {F : Nat → Prop} {w w' : World} {P : Program} {k : TypeId} {R : Value → Option (DataW Value × List MemPlace)} {b n : Nat} {D : DataW Value} (h : w.ownsMap P k R b n D) (hm : Mod F w w') (hn : ¬ F b) : w'.ownsMap P k R b n D := by
  have hl := h.lt
  obtain ⟨es, clock, hb, r⟩ := h
  exact ⟨es, clock, (hm.block b hl hn).trans hb, r⟩
theorem ownsMap_ext {w w' : World} {P : Program} {k : TypeId} {R : Value → Option (DataW Value × List MemPlace)} {b n : Nat} {D : DataW Value} (h : w.ownsMap P k R b n D) (he : Ext w w') : w'.ownsMap P k R b n D :=
  ownsMap_mod h (he.mod fun _ => False) id
section
variable {ops : Array Oper} {rest : List Oper} {o : Oper} {a : Act} {Q : Exit → Act → World → Prop} {w : World}
/-- map[int]..{} -/
theorem w_mkmap {t : TypeId} (hgd : o.guard = none) (ho : o.op = Op.makeMap t none)
    (k : ∀ g w', w.heap.size ≤ g → Ext w w' → w'.ownsMap Try.prog 3 tok g 0 (.map []) → wpList Try.prog ops Q rest (a.put o.dst (.map (some g))) w') : wpList Try.prog ops Q (o :: rest) a w := by
  refine wpList_plain hgd fun K hK => ?_
  have hk := hK _ _ (k w.heap.size (w.alloc (.map #[] 0)) (Nat.le_refl _) ((Ext.refl w).alloc _) (World.ownsMap_made w Try.prog 3 tok))
  unfold Oper.wp execOp
  simp [ho, run_makeMap, Result.andThen]
  exact hk
end
/-- A variable of one cell, of value zero. -/
theorem w_alloc1 {P : Program} {ops : Array Oper} {rest : List Oper} {o : Oper} {a : Act} {Q : Exit → Act → World → Prop} {w : World} {t : TypeId} {z : Value} (hi : (P.info? t).map (fun i => (i.zero, i.size)) = some (some z, 1)) (hz : z.cells = #[z]) (hgd : o.guard = none) (ho : o.op = .alloc t)
    (k : ∀ g w', w.heap.size ≤ g → Ext w w' → Fs w' g [z] → wpList P ops Q rest (a.put o.dst (.pointer (some ⟨g, 0, none⟩))) w') : wpList P ops Q (o :: rest) a w := by
  cases hq : P.info? t with
  | none => rw [hq] at hi; cases hi
  | some i0 =>
    rw [hq] at hi
    simp only [Option.map_some, Option.some.injEq, Prod.mk.injEq] at hi
    refine wpList_plain hgd fun K hK => ?_
    have hk := hK _ _ (k _ _ (Nat.le_refl _) ((Ext.refl w).alloc (.cells #[z] t)) (by simpa using Fs.alloc w #[z] t))
    unfold Oper.wp execOp
    simp [ho, Instr.alloc, newVar, newRow, zeroValue, typeInfo, hq, hi.1, hz]
    exact hk
end Go.Proofs.Ytmhmkaginnddeaa
namespace Go.Proofs.Ytmhmkaginnddeaa
set_option maxRecDepth 100000
open Go.RowKit Go.Shelf

def Try.sortedL_ren : Go.Shelf.Ren := ⟨fun | 6 => 34 | 8 => 46 | 9 => 38 | 11 => 52 | 13 => 50 | 12 => 49 | 23 => 62 | 24 => 63 | 14 => 53 | 15 => 54 | 16 => 55 | 17 => 56 | 18 => 57 | 19 => 58 | 20 => 59 | 21 => 60 | 22 => 61 | 25 => 64 | 26 => 65 | 27 => 66 | 28 => 67 | 29 => 68 | 30 => 69 | 31 => 70 | n => n, fun | 26 => 3 | 28 => 59 | 24 => 24 | 0 => 0 | 3 => 3 | 37 => 81 | 48 => 93 | 50 => 95 | 4 => 4 | 40 => 87 | 39 => 86 | 45 => 25 | 5 => 5 | 9 => 9 | 51 => 96 | 55 => 100 | 57 => 102 | 58 => 72 | 33 => 75 | n => n, fun | n => n⟩
theorem Try.sortedL : Go.Proofs.SlLaysZI.n6 Try.prog Try.sortedL_ren := {
  mixed := by kernel_rfl,
  f6 := ⟨Try.f34.name, by decide, Try.func34.trans (congrArg some (by kernel_rfl))⟩,
  f8 := ⟨Try.f46.name, by decide, Try.func46.trans (congrArg some (by kernel_rfl))⟩,
  f11 := ⟨Try.f52.name, by decide, Try.func52.trans (congrArg some (by kernel_rfl))⟩,
  t0 := Try.underlying0,
  a0 := Try.isAgg0,
  z0 := Try.sizeOf0,
  v0 := Try.zeroValue0,
  t24 := Try.underlying24,
  a24 := Try.isAgg24,
  z24 := Try.sizeOf24,
  v24 := Try.zeroValue24,
  t26 := Try.underlying3,
  a26 := Try.isAgg3,
  z26 := Try.sizeOf3,
  v26 := Try.zeroValue3,
  t28 := Try.underlying59,
  a28 := Try.isAgg59,
  z28 := Try.sizeOf59,
  v28 := Try.zeroValue59,
  i26 := by kernel_rfl }
def Try.sortL_ren : Go.Shelf.Ren := ⟨fun | 5 => 38 | 8 => 50 | 7 => 49 | 19 => 62 | 20 => 63 | 10 => 53 | 11 => 54 | 12 => 55 | 13 => 56 | 14 => 57 | 15 => 58 | 16 => 59 | 17 => 60 | 18 => 61 | 30 => 64 | 31 => 65 | 32 => 66 | 33 => 67 | 34 => 68 | 35 => 69 | 40 => 70 | n => n, fun | 23 => 24 | 25 => 3 | 3 => 3 | 32 => 81 | 22 => 24 | 0 => 0 | 44 => 93 | 46 => 95 | 4 => 4 | 36 => 87 | 35 => 86 | 41 => 25 | 5 => 5 | 9 => 9 | 53 => 96 | 57 => 100 | 63 => 102 | 64 => 72 | n => n, fun | n => n⟩
theorem Try.sortL : Go.Proofs.SlLaysM.n5 Try.prog Try.sortL_ren := {
  mixed := by kernel_rfl,
  f5 := ⟨Try.f38.name, by decide, Try.func38.trans (congrArg some (by kernel_rfl))⟩,
  f7 := ⟨Try.f49.name, by decide, Try.func49.trans (congrArg some (by kernel_rfl))⟩,
  f8 := Try.func50.trans (congrArg some (by kernel_rfl)),
  f10 := ⟨Try.f53.name, by decide, Try.func53.trans (congrArg some (by kernel_rfl))⟩,
  f11 := ⟨Try.f54.name, by decide, Try.func54.trans (congrArg some (by kernel_rfl))⟩,
  f12 := ⟨Try.f55.name, by decide, Try.func55.trans (congrArg some (by kernel_rfl))⟩,
  f13 := ⟨Try.f56.name, by decide, Try.func56.trans (congrArg some (by kernel_rfl))⟩,
  f14 := ⟨Try.f57.name, by decide, Try.func57.trans (congrArg some (by kernel_rfl))⟩,
  f15 := ⟨Try.f58.name, by decide, Try.func58.trans (congrArg some (by kernel_rfl))⟩,
  f16 := ⟨Try.f59.name, by decide, Try.func59.trans (congrArg some (by kernel_rfl))⟩,
  f17 := ⟨Try.f60.name, by decide, Try.func60.trans (congrArg some (by kernel_rfl))⟩,
  f18 := ⟨Try.f61.name, by decide, Try.func61.trans (congrArg some (by kernel_rfl))⟩,
  f19 := Try.func62.trans (congrArg some (by kernel_rfl)),
  f20 := Try.func63.trans (congrArg some (by kernel_rfl)),
  f30 := ⟨Try.f64.name, by decide, Try.func64.trans (congrArg some (by kernel_rfl))⟩,
  f31 := Try.func65.trans (congrArg some (by kernel_rfl)),
  f32 := Try.func66.trans (congrArg some (by kernel_rfl)),
  f33 := ⟨Try.f67.name, by decide, Try.func67.trans (congrArg some (by kernel_rfl))⟩,
  f34 := ⟨Try.f68.name, by decide, Try.func68.trans (congrArg some (by kernel_rfl))⟩,
  f35 := ⟨Try.f69.name, by decide, Try.func69.trans (congrArg some (by kernel_rfl))⟩,
  f40 := ⟨Try.f70.name, by decide, Try.func70.trans (congrArg some (by kernel_rfl))⟩,
  t0 := Try.underlying0,
  a0 := Try.isAgg0,
  z0 := Try.sizeOf0,
  v0 := Try.zeroValue0,
  t3 := Try.underlying3,
  a3 := Try.isAgg3,
  z3 := Try.sizeOf3,
  v3 := Try.zeroValue3,
  t4 := Try.underlying4,
  a4 := Try.isAgg4,
  z4 := Try.sizeOf4,
  v4 := Try.zeroValue4,
  t5 := Try.underlying5,
  a5 := Try.isAgg5,
  z5 := Try.sizeOf5,
  v5 := Try.zeroValue5,
  t9 := Try.underlying9,
  a9 := Try.isAgg9,
  z9 := Try.sizeOf9,
  v9 := Try.zeroValue9,
  t22 := Try.underlying24,
  a22 := Try.isAgg24,
  z22 := Try.sizeOf24,
  v22 := Try.zeroValue24,
  t23 := Try.underlying24,
  a23 := Try.isAgg24,
  z23 := Try.sizeOf24,
  v23 := Try.zeroValue24,
  t25 := Try.underlying3,
  a25 := Try.isAgg3,
  z25 := Try.sizeOf3,
  v25 := Try.zeroValue3,
  t32 := Try.underlying81,
  a32 := Try.isAgg81,
  z32 := Try.sizeOf81,
  v32 := Try.zeroValue81,
  t35 := Try.underlying86,
  a35 := Try.isAgg86,
  z35 := Try.sizeOf86,
  v35 := Try.zeroValue86,
  t36 := Try.underlying87,
  a36 := Try.isAgg87,
  z36 := Try.sizeOf87,
  v36 := Try.zeroValue87,
  t41 := Try.underlying25,
  a41 := Try.isAgg25,
  z41 := Try.sizeOf25,
  v41 := Try.zeroValue25,
  t44 := Try.underlying93,
  a44 := Try.isAgg93,
  z44 := Try.sizeOf93,
  v44 := Try.zeroValue93,
  t46 := Try.underlying95,
  a46 := Try.isAgg95,
  z46 := Try.sizeOf95,
  v46 := Try.zeroValue95,
  t53 := Try.underlying96,
  a53 := Try.isAgg96,
  z53 := Try.sizeOf96,
  v53 := Try.zeroValue96,
  t57 := Try.underlying100,
  a57 := Try.isAgg100,
  z57 := Try.sizeOf100,
  v57 := Try.zeroValue100,
  t63 := Try.underlying102,
  a63 := Try.isAgg102,
  z63 := Try.sizeOf102,
  v63 := Try.zeroValue102,
  t64 := Try.underlying72,
  a64 := Try.isAgg72,
  z64 := Try.sizeOf72,
  v64 := Try.zeroValue72 }
def Try.compL_ren : Go.Shelf.Ren := ⟨fun | 43 => 41 | n => n, fun | 22 => 24 | 23 => 3 | 3 => 3 | 4 => 4 | 0 => 0 | n => n, fun | n => n⟩
theorem Try.compL : Go.Proofs.SlLaysN.n43 Try.prog Try.compL_ren := {
  mixed := by kernel_rfl,
  f43 := ⟨Try.f41.name, by decide, Try.func41.trans (congrArg some (by kernel_rfl))⟩,
  t0 := Try.underlying0,
  a0 := Try.isAgg0,
  z0 := Try.sizeOf0,
  v0 := Try.zeroValue0,
  t3 := Try.underlying3,
  a3 := Try.isAgg3,
  z3 := Try.sizeOf3,
  v3 := Try.zeroValue3,
  t4 := Try.underlying4,
  a4 := Try.isAgg4,
  z4 := Try.sizeOf4,
  v4 := Try.zeroValue4,
  t22 := Try.underlying24,
  a22 := Try.isAgg24,
  z22 := Try.sizeOf24,
  v22 := Try.zeroValue24,
  t23 := Try.underlying3,
  a23 := Try.isAgg3,
  z23 := Try.sizeOf3,
  v23 := Try.zeroValue3,
  i23 := by kernel_rfl }
end Go.Proofs.Ytmhmkaginnddeaa
namespace Go.Proofs.Ytmhmkaginnddeaa
set_option maxRecDepth 100000
open Go.RowKit Go.Sort Go.Lib

theorem compact_up (d : Array Int) (hs : ∀ i j, i ≤ j → j < d.size → d[i]! ≤ d[j]!) : ∀ m, m ≤ d.size → Rise (compactUpTo d m) ∧ ∀ x, x ∈ compactUpTo d m ↔ ∃ j, j < m ∧ d[j]! = x
  | 0, _ => by
    refine ⟨by simp [compactUpTo]; exact List.Pairwise.nil, fun x => by simp [compactUpTo]⟩
  | m + 1, hm => by
    obtain ⟨h1, h2⟩ := compact_up d hs m (by omega)
    rw [compactUpTo_succ]
    by_cases hk : keeps d m = true
    · rw [if_pos hk]
      have hk' : m = 0 ∨ d[m]! ≠ d[m - 1]! := by simpa [keeps] using hk
      refine ⟨?_, fun x => ?_⟩
      · unfold Rise at h1 ⊢
        rw [List.pairwise_append]
        refine ⟨h1, List.pairwise_singleton _ _, fun a ha b hb => ?_⟩
        obtain ⟨j, hj, rfl⟩ := (h2 a).1 ha
        simp at hb; subst hb
        have e1 := hs j (m - 1) (by omega) (by omega)
        have e2 := hs (m - 1) m (by omega) (by omega)
        rcases hk' with e | e
        · omega
        · omega
      · rw [List.mem_append, h2]
        constructor
        · rintro (⟨j, hj, rfl⟩ | hx)
          · exact ⟨j, by omega, rfl⟩
          · simp at hx; exact ⟨m, by omega, hx.symm⟩
        · rintro ⟨j, hj, rfl⟩
          by_cases hjm : j < m
          · exact .inl ⟨j, hjm, rfl⟩
          · obtain rfl : j = m := by omega
            exact .inr (by simp)
    · rw [if_neg hk, List.append_nil]
      refine ⟨h1, fun x => ?_⟩
      rw [h2]
      have hk' : ¬ m = 0 ∧ d[m]! = d[m - 1]! := by simpa [keeps] using hk
      constructor
      · rintro ⟨j, hj, rfl⟩; exact ⟨j, by omega, rfl⟩
      · rintro ⟨j, hj, rfl⟩
        by_cases hjm : j < m
        · exact ⟨j, hjm, rfl⟩
        · obtain rfl : j = m := by omega
          exact ⟨j - 1, by omega, hk'.2.symm⟩
theorem sort_le (l : List Int) : (l.mergeSort fun x y => decide (x ≤ y)).Pairwise (· ≤ ·) := by
  have := List.pairwise_mergeSort (le := fun x y : Int => decide (x ≤ y)) (fun a b c => by simp; omega) (fun a b => by simp; omega) l
  exact this.imp fun h => by simpa using h
theorem compact_sort (l : List Int) : compact (l.mergeSort fun x y => decide (x ≤ y)) = rise l := by
  have hp := List.mergeSort_perm l fun x y : Int => decide (x ≤ y)
  obtain ⟨h1, h2⟩ := compact_up (l.mergeSort fun x y => decide (x ≤ y)).toArray (fun i j hij hj => by
    have hj' : j < (l.mergeSort fun x y => decide (x ≤ y)).length := by simpa using hj
    rw [getElem!_pos _ i (by simp at hj ⊢; omega), getElem!_pos _ j hj]
    rcases Nat.lt_or_eq_of_le hij with h | h
    · exact List.pairwise_iff_getElem.1 (sort_le l) i j (by omega) hj' h
    · subst h; exact Int.le_refl _) _ (Nat.le_refl _)
  refine Rise.eq (by simpa [compact] using h1) (rise_rise l) fun x => ?_
  rw [mem_rise, ← hp.mem_iff]
  have := h2 x
  simp only [List.size_toArray] at this
  unfold compact
  rw [this]
  constructor
  · rintro ⟨j, hj, rfl⟩
    rw [getElem!_pos _ j (by simpa using hj)]
    exact List.getElem_mem _
  · intro hx
    obtain ⟨j, hj, rfl⟩ := List.getElem_of_mem hx
    exact ⟨j, hj, by rw [getElem!_pos _ j (by simpa using hj)]; rfl⟩
theorem sort_rise {l : List Int} (hn : l.Nodup) : (l.mergeSort fun x y => decide (x ≤ y)) = rise l := by
  have hp := List.mergeSort_perm l fun x y : Int => decide (x ≤ y)
  refine Rise.eq ?_ (rise_rise l) fun x => by rw [mem_rise, hp.mem_iff]
  unfold Rise
  have h1 := sort_le l
  have h2 := hp.nodup_iff.2 hn
  exact (h1.and h2).imp fun h => by omega
theorem rise_perm {l m : List Int} (h : l.Perm m) : rise l = rise m := Rise.eq (rise_rise l) (rise_rise m) fun x => by rw [mem_rise, mem_rise, h.mem_iff]

theorem OwnI.split {base : Nat} {w : World} {v : Value} {l : List Int} (h : OwnI base w v l) : (v = .slice none 0 0 ∧ l = []) ∨ ∃ g cap cur, v = .slice (some ⟨g, 0, none⟩) l.length cap ∧ base ≤ g ∧ w.heap[g]? = some (.cells cur 3 (0, 0)) ∧ l.length ≤ cap ∧ cap ≤ maxLen ∧ cur.size = cap * 1 ∧ cur.toList.take l.length = l.map encZ := by
  unfold OwnI at h
  obtain ⟨h0, hn | ⟨g, cap, cur, hv, hb, hh, r1, r2, r3, r4⟩⟩ := h
  · obtain ⟨h1, h2⟩ := hn
    refine .inl ⟨h1, ?_⟩
    rw [i64s_length] at h2
    exact List.eq_nil_of_length_eq_zero h2
  · rw [i64s_length] at hv r1
    refine .inr ⟨g, cap, cur, hv, hb, hh, r1, r2, r3, ?_⟩
    rw [i64s_length, Nat.mul_one] at r4
    exact r4
theorem OwnI.of_row {base : Nat} {w : World} {v : Value} {l : List Int} (h : w.ownsRow base 3 1 v l.length (l.map encZ)) : OwnI base w v l := by
  unfold OwnI; rw [i64s_length]; exact h
theorem mod_sorted {w : World} {g n : Nat} {os : Array Obj} (d : Array Int) : Mod (fun k => k = g) w (Go.Sort.grow (putRow encZ (Sort.ahead w n) g 0 d) os) := by
  have h := grownBy_sorted_i (w := w) (g := g) (n := n) (os := os) d
  exact ⟨h.os, h.tape, h.output, h.size, fun k hk hn => h.block k hk fun e => hn (Option.some.inj e)⟩

theorem Sort_own {base : Nat} {w : World} {v : Value} {l : List Int} (h : OwnI base w v l) (hlen : l.length ≤ 1000) :
    Calls Try.prog 38 #[v] w fun e w' => e = .returned (.tuple #[]) ∧ OwnI base w' v (l.mergeSort fun x y => decide (x ≤ y)) ∧ Mod (fun k => v.ownBlock = some k) w w' := by
  rcases h.split with ⟨rfl, rfl⟩ | ⟨g, cap, cur, rfl, hb, hh, r1, r2, r3, r4⟩
  · refine (AnyM.slices_Sort_int_none Try.sortL none 0 w).mono ?_
    rintro e w' ⟨rfl, rfl⟩
    exact ⟨rfl, by simpa using h, Mod.refl _ _⟩
  · refine (AnyM.slices_Sort_int Try.sortL g 0 cap l w (holds_of_block_i hh r4) (Array.getElem?_eq_some_iff.1 hh).1 (by omega)).mono ?_
    rintro e w' ⟨rfl, n, os, rfl⟩
    have hl : (l.mergeSort fun x y => decide (x ≤ y)).length = l.length := List.length_mergeSort l
    refine ⟨rfl, OwnI.of_row ?_, (mod_sorted _).mono fun i _ hi => by subst hi; rfl⟩
    have := ownsRow_sorted_i (n := n) (os := os) (ts := l.mergeSort fun x y => decide (x ≤ y)) (ss := l) hl hb hh r1 r2 r3
    rw [hl]; exact this
theorem Compact_own {base : Nat} {w : World} {v : Value} {l : List Int} (h : OwnI base w v l) :
    Calls Try.prog 41 #[v] w fun e w' => ∃ v', e = .returned v' ∧ OwnI base w' v' (compact l) ∧ Mod (fun k => v.ownBlock = some k) w w' := by
  rcases h.split with ⟨rfl, rfl⟩ | ⟨g, cap, cur, rfl, hb, hh, r1, r2, r3, r4⟩
  · refine (AnyG.slices_Compact_int_empty Try.compL none 0 w).mono ?_
    rintro e w' ⟨rfl, rfl⟩
    exact ⟨_, rfl, h, Mod.refl _ _⟩
  · refine (AnyG.slices_Compact_int Try.compL g 0 cap l w (holds_of_block_i hh r4) (by unfold maxLen at r2; omega) r1).mono ?_
    rintro e w' ⟨rfl, n, rfl⟩
    have hle : (compact l).length ≤ l.length := by
      unfold compact compactUpTo
      rw [List.length_map]
      exact Nat.le_trans (List.length_filter_le _ _) (by simp)
    have hl : (compact l ++ List.replicate (l.length - (compact l).length) 0).length = l.length := by simp; omega
    refine ⟨_, rfl, ?_, ?_⟩
    · have := ownsRow_sorted_i (n := n) (os := #[]) (ts := compact l ++ List.replicate (l.length - (compact l).length) 0) (ss := l) hl hb hh r1 r2 r3
      rw [Go.Sort.grow_empty] at this
      have h2 := own_take (xs := (compact l ++ List.replicate (l.length - (compact l).length) 0).map encZ) (n := (compact l).length) (by rw [List.length_map, hl]; exact this) (by rw [List.length_map, hl]) (by rw [List.length_map, hl]; exact hle)
      refine OwnI.of_row ?_
      have e1 : ((compact l ++ List.replicate (l.length - (compact l).length) 0).map encZ).take (compact l).length = (compact l).map encZ := by
        rw [List.map_append, List.take_left' (by simp)]
      rw [e1, List.length_map] at h2
      exact h2
    · have := mod_sorted (w := w) (g := g) (n := n) (os := #[]) (compact l ++ List.replicate (l.length - (compact l).length) 0).toArray
      rw [Go.Sort.grow_empty] at this
      exact this.mono fun i _ hi => by subst hi; rfl

theorem Try.sortsL (m : Nat) : AnyZI.SortsIn Try.prog Try.sortedL_ren Fence.wide m :=
  ⟨fun blk off cap ss W hH hblk hsz => callsIn_wide.2 (AnyM.slices_Sort_int Try.sortL blk off cap ss W hH hblk hsz),
   fun p cap W => callsIn_wide.2 (AnyM.slices_Sort_int_none Try.sortL p cap W)⟩
end Go.Proofs.Ytmhmkaginnddeaa
namespace Go.Proofs.Ytmhmkaginnddeaa
set_option maxRecDepth 100000
open Go.RowKit

theorem runs_extract {P : Program} {o : Oper} {ρ : Operand → Value} {w : World} {x : Operand} {i : Nat} {vs : Array Value} {u : Value} (ho : o.op = .extract x i) (hx : ρ x = .tuple vs) (hi : vs[i]? = some u) : Runs P o ρ w u := by
  unfold Runs execOp
  simp [ho, hx, Instr.extract, hi]
set_option maxRecDepth 100000 in
set_option maxHeartbeats 1600000 in
theorem IClone_any {w : World} {v : Value} {l : List Int} (h0 : Ints w v l) (hlen : l.length * 8 ≤ 140737488355328) :
    Calls Try.prog 29 #[v] w fun e w' => ∃ v', e = .returned v' ∧ OwnI w.heap.size w' v' l ∧ Ext w w' := by
  refine calls_keep ?_
  have hr := hide_ h0
  have hbig := hide_ (show (([] : List Int).length + l.length) * 8 ≤ 140737488355328 from by simp; omega)
  clear h0 hlen
  go_enter Try.func29, Try.ntmps29
  go_wp2_with ((first
    | ((with_reducible refine at_bin ?_); refine w_isnil Try.elI _ _ _ rfl rfl rfl hr.out ?_; intro b hb; cases b)
    | ((with_reducible refine at_lit ?_); refine w_new Try.elI (i64s []) rfl rfl rfl (i64s_cells _) rfl (by omega) ?_; intro v5 w5 hX o5; replace o5 : OwnI _ w5 v5 [] := o5)
    | ((with_reducible refine at_bi ?_); refine appi _ _ rfl rfl rfl rfl o5 (hr.out.ext hX) hbig.out hX.size ?_; intro v9 w9 o9 hb9 hg9 hg9'; rw [List.nil_append] at o9; replace hX := hX.trans' hb9; clear hb9 hg9 hg9' o5)
    | fail) <;> (try simp only [Act.put, List.setIfInBounds_toArray, List.set_cons_zero, List.set_cons_succ]))
  · go_ret
    exact Keep.intro ⟨v9, rfl, o9, hX⟩
  · obtain rfl : l = [] := List.map_eq_nil_iff.1 (hb trivial).1
    go_ret
    exact Keep.intro ⟨_, rfl, OwnI.nil _ _, Ext.refl _⟩
end Go.Proofs.Ytmhmkaginnddeaa
