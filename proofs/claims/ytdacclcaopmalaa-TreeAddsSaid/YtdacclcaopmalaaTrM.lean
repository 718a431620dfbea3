/- Numbers sorted, turned round, each once; all that are known, rising. -/
import Derived.Test.YtdacclcaopmalaaTrD
import Derived.Test.YtdacclcaopmalaaTrL
namespace Go.Proofs.Ytdacclcaopmalaa
set_option maxRecDepth 100000
open Go.RowKit Go.Sort Go.Lib

theorem compact_up (d : Array Int) (hs : ∀ i j, i ≤ j → j < d.size → d[i]! ≤ d[j]!) : ∀ m, m ≤ d.size → Rise (compactUpTo d m) ∧ ∀ x, x ∈ compactUpTo d m ↔ ∃ j, j < m ∧ d[j]! = x
  | 0, _ => by
    refine ⟨by simp [compactUpTo]; exact List.Pairwise.nil, fun x => by simp [compactUpTo]⟩
  | m + 1, hm => by
    obtain ⟨h1, h2⟩ := compact_up d hs m (by omega)
    rw [compactUpTo_succ]
    by_cases hk : keeps d m = true
    · rw [if_pos hk]
      have hk' : m = 0 ∨ d[m]! ≠ d[m - 1]! := by simpa [keeps] using hk
      refine ⟨?_, fun x => ?_⟩
      · unfold Rise at h1 ⊢
        rw [List.pairwise_append]
        refine ⟨h1, List.pairwise_singleton _ _, fun a ha b hb => ?_⟩
        obtain ⟨j, hj, rfl⟩ := (h2 a).1 ha
        simp at hb; subst hb
        have e1 := hs j (m - 1) (by omega) (by omega)
        have e2 := hs (m - 1) m (by omega) (by omega)
        rcases hk' with e | e
        · omega
        · omega
      · rw [List.mem_append, h2]
        constructor
        · rintro (⟨j, hj, rfl⟩ | hx)
          · exact ⟨j, by omega, rfl⟩
          · simp at hx; exact ⟨m, by omega, hx.symm⟩
        · rintro ⟨j, hj, rfl⟩
          by_cases hjm : j < m
          · exact .inl ⟨j, hjm, rfl⟩
          · obtain rfl : j = m := by omega
            exact .inr (by simp)
    · rw [if_neg hk, List.append_nil]
      refine ⟨h1, fun x => ?_⟩
      rw [h2]
      have hk' : ¬ m = 0 ∧ d[m]! = d[m - 1]! := by simpa [keeps] using hk
      constructor
      · rintro ⟨j, hj, rfl⟩; exact ⟨j, by omega, rfl⟩
      · rintro ⟨j, hj, rfl⟩
        by_cases hjm : j < m
        · exact ⟨j, hjm, rfl⟩
        · obtain rfl : j = m := by omega
          exact ⟨j - 1, by omega, hk'.2.symm⟩
theorem sort_le (l : List Int) : (l.mergeSort fun x y => decide (x ≤ y)).Pairwise (· ≤ ·) := by
  have := List.pairwise_mergeSort (le := fun x y : Int => decide (x ≤ y)) (fun a b c => by simp; omega) (fun a b => by simp; omega) l
  exact this.imp fun h => by simpa using h
theorem compact_sort (l : List Int) : compact (l.mergeSort fun x y => decide (x ≤ y)) = rise l := by
  have hp := List.mergeSort_perm l fun x y : Int => decide (x ≤ y)
  obtain ⟨h1, h2⟩ := compact_up (l.mergeSort fun x y => decide (x ≤ y)).toArray (fun i j hij hj => by
    have hj' : j < (l.mergeSort fun x y => decide (x ≤ y)).length := by simpa using hj
    rw [getElem!_pos _ i (by simp at hj ⊢; omega), getElem!_pos _ j hj]
    rcases Nat.lt_or_eq_of_le hij with h | h
    · exact List.pairwise_iff_getElem.1 (sort_le l) i j (by omega) hj' h
    · subst h; exact Int.le_refl _) _ (Nat.le_refl _)
  refine Rise.eq (by simpa [compact] using h1) (rise_rise l) fun x => ?_
  rw [mem_rise, ← hp.mem_iff]
  have := h2 x
  simp only [List.size_toArray] at this
  unfold compact
  rw [this]
  constructor
  · rintro ⟨j, hj, rfl⟩
    rw [getElem!_pos _ j (by simpa using hj)]
    exact List.getElem_mem _
  · intro hx
    obtain ⟨j, hj, rfl⟩ := List.getElem_of_mem hx
    exact ⟨j, hj, by rw [getElem!_pos _ j (by simpa using hj)]; rfl⟩
theorem sort_rise {l : List Int} (hn : l.Nodup) : (l.mergeSort fun x y => decide (x ≤ y)) = rise l := by
  have hp := List.mergeSort_perm l fun x y : Int => decide (x ≤ y)
  refine Rise.eq ?_ (rise_rise l) fun x => by rw [mem_rise, hp.mem_iff]
  unfold Rise
  have h1 := sort_le l
  have h2 := hp.nodup_iff.2 hn
  exact (h1.and h2).imp fun h => by omega
theorem rise_perm {l m : List Int} (h : l.Perm m) : rise l = rise m := Rise.eq (rise_rise l) (rise_rise m) fun x => by rw [mem_rise, mem_rise, h.mem_iff]

theorem OwnI.split {base : Nat} {w : World} {v : Value} {l : List Int} (h : OwnI base w v l) : (v = .slice none 0 0 ∧ l = []) ∨ ∃ g cap cur, v = .slice (some ⟨g, 0, none⟩) l.length cap ∧ base ≤ g ∧ w.heap[g]? = some (.cells cur 3 (0, 0)) ∧ l.length ≤ cap ∧ cap ≤ maxLen ∧ cur.size = cap * 1 ∧ cur.toList.take l.length = l.map encZ := by
  unfold OwnI at h
  obtain ⟨h0, hn | ⟨g, cap, cur, hv, hb, hh, r1, r2, r3, r4⟩⟩ := h
  · obtain ⟨h1, h2⟩ := hn
    refine .inl ⟨h1, ?_⟩
    rw [i64s_length] at h2
    exact List.eq_nil_of_length_eq_zero h2
  · rw [i64s_length] at hv r1
    refine .inr ⟨g, cap, cur, hv, hb, hh, r1, r2, r3, ?_⟩
    rw [i64s_length, Nat.mul_one] at r4
    exact r4
theorem OwnI.of_row {base : Nat} {w : World} {v : Value} {l : List Int} (h : w.ownsRow base 3 1 v l.length (l.map encZ)) : OwnI base w v l := by
  unfold OwnI; rw [i64s_length]; exact h
theorem mod_sorted {w : World} {g n : Nat} {os : Array Obj} (d : Array Int) : Mod (fun k => k = g) w (Go.Sort.grow (putRow encZ (Sort.ahead w n) g 0 d) os) := by
  have h := grownBy_sorted_i (w := w) (g := g) (n := n) (os := os) d
  exact ⟨h.os, h.tape, h.output, h.size, fun k hk hn => h.block k hk fun e => hn (Option.some.inj e)⟩

theorem Sort_own {base : Nat} {w : World} {v : Value} {l : List Int} (h : OwnI base w v l) (hlen : l.length ≤ 1000) :
    Calls Try.prog 60 #[v] w fun e w' => e = .returned (.tuple #[]) ∧ OwnI base w' v (l.mergeSort fun x y => decide (x ≤ y)) ∧ Mod (fun k => v.ownBlock = some k) w w' := by
  rcases h.split with ⟨rfl, rfl⟩ | ⟨g, cap, cur, rfl, hb, hh, r1, r2, r3, r4⟩
  · refine (AnyM.slices_Sort_int_none Try.sortL none 0 w).mono ?_
    rintro e w' ⟨rfl, rfl⟩
    exact ⟨rfl, by simpa using h, Mod.refl _ _⟩
  · refine (AnyM.slices_Sort_int Try.sortL g 0 cap l w (holds_of_block_i hh r4) (Array.getElem?_eq_some_iff.1 hh).1 (by omega)).mono ?_
    rintro e w' ⟨rfl, n, os, rfl⟩
    have hl : (l.mergeSort fun x y => decide (x ≤ y)).length = l.length := List.length_mergeSort l
    refine ⟨rfl, OwnI.of_row ?_, (mod_sorted _).mono fun i _ hi => by subst hi; rfl⟩
    have := ownsRow_sorted_i (n := n) (os := os) (ts := l.mergeSort fun x y => decide (x ≤ y)) (ss := l) hl hb hh r1 r2 r3
    rw [hl]; exact this
theorem Compact_own {base : Nat} {w : World} {v : Value} {l : List Int} (h : OwnI base w v l) :
    Calls Try.prog 61 #[v] w fun e w' => ∃ v', e = .returned v' ∧ OwnI base w' v' (compact l) ∧ Mod (fun k => v.ownBlock = some k) w w' := by
  rcases h.split with ⟨rfl, rfl⟩ | ⟨g, cap, cur, rfl, hb, hh, r1, r2, r3, r4⟩
  · refine (AnyG.slices_Compact_int_empty Try.compL none 0 w).mono ?_
    rintro e w' ⟨rfl, rfl⟩
    exact ⟨_, rfl, h, Mod.refl _ _⟩
  · refine (AnyG.slices_Compact_int Try.compL g 0 cap l w (holds_of_block_i hh r4) (by unfold maxLen at r2; omega) r1).mono ?_
    rintro e w' ⟨rfl, n, rfl⟩
    have hle : (compact l).length ≤ l.length := by
      unfold compact compactUpTo
      rw [List.length_map]
      exact Nat.le_trans (List.length_filter_le _ _) (by simp)
    have hl : (compact l ++ List.replicate (l.length - (compact l).length) 0).length = l.length := by simp; omega
    refine ⟨_, rfl, ?_, ?_⟩
    · have := ownsRow_sorted_i (n := n) (os := #[]) (ts := compact l ++ List.replicate (l.length - (compact l).length) 0) (ss := l) hl hb hh r1 r2 r3
      rw [Go.Sort.grow_empty] at this
      have h2 := own_take (xs := (compact l ++ List.replicate (l.length - (compact l).length) 0).map encZ) (n := (compact l).length) (by rw [List.length_map, hl]; exact this) (by rw [List.length_map, hl]) (by rw [List.length_map, hl]; exact hle)
      refine OwnI.of_row ?_
      have e1 : ((compact l ++ List.replicate (l.length - (compact l).length) 0).map encZ).take (compact l).length = (compact l).map encZ := by
        rw [List.map_append, List.take_left' (by simp)]
      rw [e1, List.length_map] at h2
      exact h2
    · have := mod_sorted (w := w) (g := g) (n := n) (os := #[]) (compact l ++ List.replicate (l.length - (compact l).length) 0).toArray
      rw [Go.Sort.grow_empty] at this
      exact this.mono fun i _ hi => by subst hi; rfl

theorem Try.sortsL (m : Nat) : AnyZI.SortsIn Try.prog Try.sortedL_ren Fence.wide m :=
  ⟨fun blk off cap ss W hH hblk hsz => callsIn_wide.2 (AnyM.slices_Sort_int Try.sortL blk off cap ss W hH hblk hsz),
   fun p cap W => callsIn_wide.2 (AnyM.slices_Sort_int_none Try.sortL p cap W)⟩
theorem Keys_any (mb : Option Nat) (w : World) : Calls Try.prog 66 #[.map mb] w fun e w' =>
    e = .returned (.func (.func 83) #[] #[.pointer (some ⟨w.heap.size, 0, none⟩)]) ∧ w' = w.alloc (.cells #[.map mb] 80) :=
  (callsIn_wide (n := 5)).1 (AnyZI.keys_in Try.keysL Fence.wide 5 trivial rfl mb w)
theorem Sorted_any {w : World} {g n : Nat} {D : DataW Value} (hown : w.ownsMap Try.prog 3 tok g n D) (hmax : Maps.size D ≤ 400) :
    Calls Try.prog 65 #[.func (.func 83) #[] #[.pointer (some ⟨w.heap.size, 0, none⟩)]] (w.alloc (.cells #[.map (some g)] 80)) fun e w' =>
      ∃ (v : Value) (ss : List Int), e = .returned v ∧ ss.Perm (intKeys D) ∧ OwnI (w.alloc (.cells #[.map (some g)] 80)).heap.size w' v (ss.mergeSort fun x y => decide (x ≤ y)) ∧ Ext (w.alloc (.cells #[.map (some g)] 80)) w' := by
  refine (callsIn_wide (n := 5)).1 ?_
  have hseq : SeqGives Fence.wide 2 Try.prog 83 #[.pointer (some ⟨w.heap.size, 0, none⟩)] encZ (fun ss => ss.Perm (intKeys D)) (Maps.size D) (w.alloc (.cells #[.map (some g)] 80)) :=
    AnyZI.keys_gives (ρ := Try.keysL_ren) { Try.keysL with } Fence.wide _ trivial rfl (by omega) w.heap.size g n D _ (by simp) (by simp) (ownsMap_ext hown ((Ext.refl w).alloc _))
  have cS := AnyZI.sorted_in Try.sortedL Fence.wide 5 trivial trivial trivial trivial rfl (by omega) (Try.sortsL _) (enters_of Try.func60 (by kernel_rfl) rfl) 83 #[.pointer (some ⟨w.heap.size, 0, none⟩)] trivial (enters_of Try.func83 (by kernel_rfl) rfl) _ _ (by unfold maxLen; omega) (by omega) _ hseq
  refine CallsIn.mono cS ?_
  rintro e w' ⟨v, ss, rfl, hS, hrow, _, hb⟩
  refine ⟨v, ss, rfl, hS, OwnI.of_row ?_, hb⟩
  rw [List.length_mergeSort]; exact hrow

set_option maxRecDepth 100000 in
set_option maxHeartbeats 1600000 in
theorem Names_any {G : Nat → Prop} {w : World} {p : Nat} {K V : List BlkD} (h0 : TrW G w p K V) :
    Calls Try.prog 38 #[.pointer (some ⟨p, 0, none⟩)] w fun e w' => ∃ v', e = .returned v' ∧ OwnI w.heap.size w' v' (TrS.names K) ∧ Ext w w' := by
  refine calls_keep ?_
  obtain ⟨X, g, v, h1, _⟩ := h0
  have f1 := h1.obj
  obtain ⟨n, D, us, h2, h3, h4, h5, _⟩ := h1.map
  have hs := hide_ (show Maps.size D ≤ 400 from by have := h1.fit.room; rw [h5.size]; simp [h4]; omega)
  have hk := hide_ (show ∀ ss : List Int, ss.Perm (intKeys D) → (ss.mergeSort fun x y => decide (x ≤ y)) = TrS.names K from fun ss hp => by
    have hp2 := hp.trans h5.keys
    have e1 : ((K.zip us).map fun x => (x.1.name, kVal x.1 x.2 (TrS.height K x.1.name))).map (·.1) = K.map BlkD.name := by
      rw [List.map_map]
      have : ((fun x : Int × Value => x.1) ∘ fun x : BlkD × Value => (x.1.name, kVal x.1 x.2 (TrS.height K x.1.name))) = BlkD.name ∘ Prod.fst := rfl
      rw [this, ← List.map_map, List.map_fst_zip (by omega)]
    rw [e1] at hp2
    rw [sort_rise (hp2.nodup_iff.2 (by have := h5.nd; rw [e1] at this; exact this)), rise_perm hp2]; rfl)
  replace h3 := hide_ h3
  have hX := Ext.refl w
  clear h1 h5
  go_enter Try.func38, Try.ntmps38
  go_wp2_with ((first
    | (go_at_call 66; refine (Keys_any _ _).mono ?_; rintro e w4 ⟨rfl, rfl⟩)
    | (go_at_call 65; refine (Sorted_any h3.out hs.out).mono ?_; rintro e w4 ⟨v1, ss, rfl, hp, o1, hx⟩; rw [hk.out ss hp] at o1)
    | ((with_reducible refine at_field ?_); (try refine w_yes _ _ _ rfl rfl rfl ?_); refine w_field Try.stTree _ _ _ rfl rfl rfl (by omega) ?_)
    | ((with_reducible refine at_load ?_); (try refine w_yes _ _ _ rfl rfl rfl ?_); refine w_fload _ rfl rfl rfl f1 rfl (agg_of (by kernel_rfl)) ?_)
    | fail) <;> (try simp only [Act.put, List.setIfInBounds_toArray, List.set_cons_zero, List.set_cons_succ]))
  go_ret
  exact Keep.intro ⟨v1, rfl, o1.mono (by simp), ((Ext.refl w).alloc _).trans hx⟩
end Go.Proofs.Ytdacclcaopmalaa
