/- Who voted, and who voted for a value, rising; the views in which anybody voted. -/
import Derived.Test.YtmhmkaginnddeaaTlB2
import Derived.Test.YtmhmkaginnddeaaTlL
import Derived.Shelf.SlIterI.Stops
namespace Go.Proofs.Ytmhmkaginnddeaa
set_option maxRecDepth 100000
open Go.RowKit Go.Sort Go.Lib

/-! ### Rising -/
theorem rise_picks (p : Nat → Bool) : ∀ n, Rise (picks p n)
  | 0 => List.Pairwise.nil
  | n + 1 => by
    rw [picks_succ]
    unfold Rise
    rw [List.pairwise_append]
    refine ⟨rise_picks p n, by split <;> simp, fun x hx y hy => ?_⟩
    have := picks_wf p n x hx
    split at hy
    · rw [List.mem_singleton] at hy; omega
    · cases hy
theorem mem_picks {p : Nat → Bool} {n : Nat} {x : Int} : x ∈ picks p n ↔ ∃ i : Nat, i < n ∧ p i = true ∧ x = (i : Int) := by
  simp only [picks, List.mem_map, List.mem_filter, List.mem_range]
  constructor
  · rintro ⟨i, ⟨h1, h2⟩, rfl⟩; exact ⟨i, h1, h2, rfl⟩
  · rintro ⟨i, h1, h2, rfl⟩; exact ⟨i, ⟨h1, h2⟩, rfl⟩
theorem Rise.nodup {l : List Int} (h : Rise l) : l.Nodup := h.imp fun hab e => by omega
/-! ### Ranges over maps -/
section
variable {F : Nat → Prop} {w w' : World} {P : Program} {k : TypeId} {R : Value → Option (DataW Value × List MemPlace)} {b r n cnt : Nat} {D : DataW Value} {left : Go.Lit → Bool}
theorem rngs_mod (h : w.ranges P k R b r n D left cnt) (hm : Mod F w w') (hb : ¬ F b) (hr : ¬ F r) : w'.ranges P k R b r n D left cnt := by
  have h1 := h.owns.lt
  have h2 := h.lt
  obtain ⟨es, clock, since, seen, c0, e1, G, hs, hD, e2, rest⟩ := h
  exact ⟨es, clock, since, seen, c0, (hm.block b h1 hb).trans e1, G, hs, hD, (hm.block r h2 hr).trans e2, rest⟩
theorem rngs_ext (h : w.ranges P k R b r n D left cnt) (he : Ext w w') : w'.ranges P k R b r n D left cnt := rngs_mod h (he.mod fun _ => False) id id
end
/-- The entry that the range over block r has come to. -/
def EntryIs (w : World) (r : Nat) (key v : Value) : Prop := (Instr.entry (.pointer (some ⟨r, 0, none⟩))).run Try.prog w = .ok (.tuple #[key, v]) w
/-- A range over no map at all. -/
def NilIter (w : World) (r : Nat) : Prop := ∃ a s c, w.heap[r]? = some (.mapIter none a s c)
section
variable {ops : Array Oper} {rest : List Oper} {o : Oper} {a : Act} {Q : Exit → Act → World → Prop} {w : World} {k e t : TypeId} {b r n cnt : Nat} {D : DataW Value} {left : Go.Lit → Bool}
theorem w_rangeT (K : Maps.Keyed Try.prog k) (ht : Try.prog.underlying t = some (.map k e)) (x : Operand) (hgd : o.guard = none) (ho : o.op = Op.range t x) (hx : a.eval x = .map (some b)) (h : w.ownsMap Try.prog k tok b n D)
    (kk : ∀ r w', w.heap.size ≤ r → Ext w w' → w'.ranges Try.prog k tok b r n D (Maps.has D) (Maps.size D) → wpList Try.prog ops Q rest (a.put o.dst (.pointer (some ⟨r, 0, none⟩))) w') : wpList Try.prog ops Q (o :: rest) a w := by
  refine wpList_range_own w hgd x t ho k e K ht tok b n D hx h ?_
  intro w' h1 h2 h3
  exact kk _ w' (Nat.le_refl _) ⟨h2.os, h2.tape, h2.output, h2.size, fun j hj => h2.block j hj (by simp)⟩ h1
theorem w_nextT (K : Maps.Keyed Try.prog k) (x : Operand) (hgd : o.guard = none) (ho : o.op = Op.next x false) (hx : a.eval x = .pointer (some ⟨r, 0, none⟩)) (h : w.ranges Try.prog k tok b r n D left cnt)
    (h0 : (∀ kl, left kl = false) → wpList Try.prog ops Q rest (a.put o.dst (.tuple #[.bool false])) w)
    (h1 : ∀ key v kl w' cnt', keyOf Try.prog k key = some kl → left kl = true → (∀ zd, D.atKey kl zd = .held v) → w'.ranges Try.prog k tok b r n D (fun z => left z && !z.sameKey kl) cnt' → cnt' < cnt → Mod (fun j => j = r) w w' → EntryIs w' r key v →
      wpList Try.prog ops Q rest (a.put o.dst (.tuple #[.bool true, key, v])) w') : wpList Try.prog ops Q (o :: rest) a w := by
  refine wpList_plain hgd fun K' hK' => ?_
  unfold Oper.wp
  rcases h.next K o.type with ⟨_, hl, hrun⟩ | ⟨key, v, kl, y, w', cnt', hkey, hlk, hv, hat, hrun, hrg, hlt, hgr, hsz, hen⟩
  · simp [execOp, ho, hx, hrun, Result.andThen]
    exact hK' _ _ (h0 hl)
  · simp [execOp, ho, hx, hrun, Result.andThen]
    refine hK' _ _ (h1 key v kl w' cnt' hkey hlk (fun zd => ?_) hrg hlt ⟨hgr.os, hgr.tape, hgr.output, hgr.size, fun j hj hne => hgr.block j hj fun e => hne (by injection e)⟩ hen)
    rw [hat zd]
    have : some (DataW.held v, ([] : List MemPlace)) = some y := hv
    injection this with this
    rw [← this]
theorem w_entryT (x : Operand) {key v : Value} (hgd : o.guard = none) (ho : o.op = Op.entry x) (hx : a.eval x = .pointer (some ⟨r, 0, none⟩)) (h : EntryIs w r key v) (kk : wpList Try.prog ops Q rest (a.put o.dst (.tuple #[key, v])) w) : wpList Try.prog ops Q (o :: rest) a w := by
  refine wpList_runs hgd (v := .tuple #[key, v]) ?_ kk
  unfold EntryIs at h
  unfold Runs execOp
  simp [ho, hx, h]
theorem w_rangeN (ht : Try.prog.underlying t = some (.map k e)) (x : Operand) (hgd : o.guard = none) (ho : o.op = Op.range t x) (hx : a.eval x = .map none)
    (kk : ∀ r w', Ext w w' → NilIter w' r → wpList Try.prog ops Q rest (a.put o.dst (.pointer (some ⟨r, 0, none⟩))) w') : wpList Try.prog ops Q (o :: rest) a w := by
  refine wpList_plain hgd fun K' hK' => ?_
  have hk := hK' _ _ (kk w.heap.size (w.alloc (.mapIter none 0 #[] 0)) ((Ext.refl w).alloc _) ⟨0, #[], 0, heap_alloc_new w _⟩)
  unfold Oper.wp
  simp [execOp, ho, hx, run_range_nilMap w t k e ht, Result.andThen]
  exact hk
theorem w_nextN (x : Operand) (hgd : o.guard = none) (ho : o.op = Op.next x false) (hx : a.eval x = .pointer (some ⟨r, 0, none⟩)) (h : NilIter w r) (kk : wpList Try.prog ops Q rest (a.put o.dst (.tuple #[.bool false])) w) : wpList Try.prog ops Q (o :: rest) a w := by
  refine wpList_runs hgd (v := .tuple #[.bool false]) ?_ kk
  obtain ⟨a', s, c, hh⟩ := h
  unfold Runs execOp
  simp [ho, hx, Instr.next, getObj, Sem.run, hh, Result.andThen]
end
section
variable {P : Program} {ops : Array Oper} {rest : List Oper} {a : Act} {Q : Exit → Act → World → Prop} {w : World} {d : Option Tmp} {ty t : TypeId} {pos : String} {af : Array Edge} {gd : Option (Nat × Bool)} {x : Operand} {c : Bool}
theorem at_rng (h : wpList P ops Q (⟨d, .range t x, ty, pos, af, gd⟩ :: rest) a w) : wpList P ops Q (⟨d, .range t x, ty, pos, af, gd⟩ :: rest) a w := h
theorem at_nxt (h : wpList P ops Q (⟨d, .next x c, ty, pos, af, gd⟩ :: rest) a w) : wpList P ops Q (⟨d, .next x c, ty, pos, af, gd⟩ :: rest) a w := h
theorem at_ent (h : wpList P ops Q (⟨d, .entry x, ty, pos, af, gd⟩ :: rest) a w) : wpList P ops Q (⟨d, .entry x, ty, pos, af, gd⟩ :: rest) a w := h
end
/-- What a map of numbers has are numbers. -/
theorem has_in64 {w : World} {R : Value → Option (DataW Value × List MemPlace)} {b n : Nat} {D : DataW Value} (h : w.ownsMap Try.prog 3 R b n D) {x : Int} (hx : Maps.has D (.int .i64 x) = true) : In64 x := by
  obtain ⟨es, clock, hb, G, hs, rfl⟩ := h
  rw [Maps.has_eq, List.any_eq_true] at hx
  obtain ⟨p, hp, hs⟩ := hx
  obtain ⟨e, he, rfl⟩ := List.mem_map.1 (mem_sorted.1 hp)
  obtain ⟨y, hy⟩ := G.reads e he
  rw [WideElems.rg_of hy] at hs
  have hk := WideElems.rd_key hy
  have e1 := WideAt.sameKey_eq hs
  rw [e1] at hk
  obtain ⟨x', _, e2, hw⟩ := Maps.keyOf_int_inv Try.underlying3 hk
  injection e2 with _ e2
  subst e2
  exact wf_in hw
/-! ### maps.Keys and slices.Sorted -/
theorem KeysI_any (mb : Option Nat) (w : World) : Calls Try.prog 36 #[.map mb] w fun e w' =>
    ∃ gb, e = .returned (.func (.func 48) #[] #[.pointer (some ⟨gb, 0, none⟩)]) ∧ Fs w' gb [.map mb] ∧ w.heap.size ≤ gb ∧ Ext w w' := by
  refine ((callsIn_wide (n := 5)).1 (AnyZI.keys_in Try.keysIL Fence.wide 5 trivial rfl mb w)).mono ?_
  rintro e w' ⟨rfl, rfl⟩
  exact ⟨_, rfl, Fs.alloc w _ _, Nat.le_refl _, (Ext.refl w).alloc _⟩
theorem SortedI_any {w : World} {gb g n : Nat} {D : DataW Value} (hf : Fs w gb [.map (some g)]) (hown : w.ownsMap Try.prog 3 tok g n D) (hn : n ≤ 20000) :
    Calls Try.prog 34 #[.func (.func 48) #[] #[.pointer (some ⟨gb, 0, none⟩)]] w fun e w' =>
      ∃ (v : Value) (l : List Int), e = .returned v ∧ OwnI w.heap.size w' v l ∧ Rise l ∧ (∀ x, x ∈ l ↔ Maps.has D (.int .i64 x) = true) ∧ Ext w w' := by
  refine (callsIn_wide (n := 5)).1 ?_
  have hmax : Maps.size D ≤ 20000 := Nat.le_trans hown.size_le hn
  have hseq := (SeqStops.gives (AnyZI.keys_stops (ρ := Try.keysIL_ren) { Try.keysIL with } Fence.wide (5 - 1 - 1 - 1) trivial rfl (by omega) gb g n D w hf.lt (hf.cell (i := 0) rfl) hown))
  have cS := AnyZI.sorted_in Try.sortedL Fence.wide 5 trivial trivial trivial trivial rfl (by omega) (Try.sortsL _) (enters_of Try.func38 (by kernel_rfl) rfl) 48 #[.pointer (some ⟨gb, 0, none⟩)] trivial (enters_of Try.func48 (by kernel_rfl) rfl) _ _ (by unfold maxLen; omega) (by omega) _ hseq
  refine CallsIn.mono cS ?_
  rintro e w' ⟨v, ss, rfl, ⟨hS, hmem⟩, hrow, _, hb⟩
  have hnd : ss.Nodup := by
    obtain ⟨es, hD, hap, hky⟩ := hown.entries Try.keyI
    refine hS.nodup_iff.2 ?_
    subst hD
    have : ∀ p ∈ es, ∃ x, p.1 = .int .i64 x := fun p hp => by
      obtain ⟨es', clock, hb', G, hs', hD'⟩ := hown
      injection hD' with hD'
      subst hD'
      obtain ⟨e, he, rfl⟩ := List.mem_map.1 (mem_sorted.1 hp)
      obtain ⟨y, hy⟩ := G.reads e he
      rw [WideElems.rg_of hy]
      obtain ⟨x', _, e2, _⟩ := Maps.keyOf_int_inv Try.underlying3 (WideElems.rd_key hy)
      exact ⟨x', e2⟩
    show (es.map fun p : Go.Lit × DataW Value => _root_.Go.intOf p.1).Nodup
    clear hown hS hmem cS hseq hky hmax
    induction es with
    | nil => exact List.nodup_nil
    | cons p es ih =>
      obtain ⟨h1, h2⟩ := List.pairwise_cons.1 hap
      rw [List.map_cons, List.nodup_cons]
      refine ⟨fun hc => ?_, ih h2 fun q hq => this q (List.mem_cons_of_mem _ hq)⟩
      obtain ⟨q, hq, he⟩ := List.mem_map.1 hc
      obtain ⟨x, hx⟩ := this p (List.mem_cons_self ..)
      obtain ⟨y, hy⟩ := this q (List.mem_cons_of_mem _ hq)
      rw [hx, hy] at he
      have : y = x := he
      exact h1 q hq (by rw [hx, hy, this])
  refine ⟨v, ss.mergeSort fun x y => decide (x ≤ y), rfl, OwnI.of_row ?_, ?_, fun x => ?_, hb⟩
  · rw [List.length_mergeSort]; exact hrow
  · rw [sort_rise hnd]; exact rise_rise ss
  · rw [(List.mergeSort_perm ss _).mem_iff]; exact hmem x
theorem KeysU_any (mb : Option Nat) (w : World) : Calls Try.prog 35 #[.map mb] w fun e w' =>
    ∃ gb, e = .returned (.func (.func 47) #[] #[.pointer (some ⟨gb, 0, none⟩)]) ∧ Fs w' gb [.map mb] ∧ w.heap.size ≤ gb ∧ Ext w w' := by
  refine ((callsIn_wide (n := 5)).1 (AnyZI.keys_in Try.keysUL Fence.wide 5 trivial rfl mb w)).mono ?_
  rintro e w' ⟨rfl, rfl⟩
  exact ⟨_, rfl, Fs.alloc w _ _, Nat.le_refl _, (Ext.refl w).alloc _⟩
theorem SortedU_any {w : World} {gb g n : Nat} {D : DataW Value} (hf : Fs w gb [.map (some g)]) (hown : w.ownsMap Try.prog 3 tok g n D) (hn : n ≤ 20000) :
    Calls Try.prog 34 #[.func (.func 47) #[] #[.pointer (some ⟨gb, 0, none⟩)]] w fun e w' =>
      ∃ (v : Value) (l : List Int), e = .returned v ∧ OwnI w.heap.size w' v l ∧ Rise l ∧ (∀ x, x ∈ l ↔ Maps.has D (.int .i64 x) = true) ∧ Ext w w' := by
  refine (callsIn_wide (n := 5)).1 ?_
  have hmax : Maps.size D ≤ 20000 := Nat.le_trans hown.size_le hn
  have hseq := (SeqStops.gives (AnyZI.keys_stops (ρ := Try.keysUL_ren) { Try.keysUL with } Fence.wide (5 - 1 - 1 - 1) trivial rfl (by omega) gb g n D w hf.lt (hf.cell (i := 0) rfl) hown))
  have cS := AnyZI.sorted_in Try.sortedL Fence.wide 5 trivial trivial trivial trivial rfl (by omega) (Try.sortsL _) (enters_of Try.func38 (by kernel_rfl) rfl) 47 #[.pointer (some ⟨gb, 0, none⟩)] trivial (enters_of Try.func47 (by kernel_rfl) rfl) _ _ (by unfold maxLen; omega) (by omega) _ hseq
  refine CallsIn.mono cS ?_
  rintro e w' ⟨v, ss, rfl, ⟨hS, hmem⟩, hrow, _, hb⟩
  have hnd : ss.Nodup := by
    obtain ⟨es, hD, hap, hky⟩ := hown.entries Try.keyI
    refine hS.nodup_iff.2 ?_
    subst hD
    have : ∀ p ∈ es, ∃ x, p.1 = .int .i64 x := fun p hp => by
      obtain ⟨es', clock, hb', G, hs', hD'⟩ := hown
      injection hD' with hD'
      subst hD'
      obtain ⟨e, he, rfl⟩ := List.mem_map.1 (mem_sorted.1 hp)
      obtain ⟨y, hy⟩ := G.reads e he
      rw [WideElems.rg_of hy]
      obtain ⟨x', _, e2, _⟩ := Maps.keyOf_int_inv Try.underlying3 (WideElems.rd_key hy)
      exact ⟨x', e2⟩
    show (es.map fun p : Go.Lit × DataW Value => _root_.Go.intOf p.1).Nodup
    clear hown hS hmem cS hseq hky hmax
    induction es with
    | nil => exact List.nodup_nil
    | cons p es ih =>
      obtain ⟨h1, h2⟩ := List.pairwise_cons.1 hap
      rw [List.map_cons, List.nodup_cons]
      refine ⟨fun hc => ?_, ih h2 fun q hq => this q (List.mem_cons_of_mem _ hq)⟩
      obtain ⟨q, hq, he⟩ := List.mem_map.1 hc
      obtain ⟨x, hx⟩ := this p (List.mem_cons_self ..)
      obtain ⟨y, hy⟩ := this q (List.mem_cons_of_mem _ hq)
      rw [hx, hy] at he
      have : y = x := he
      exact h1 q hq (by rw [hx, hy, this])
  refine ⟨v, ss.mergeSort fun x y => decide (x ≤ y), rfl, OwnI.of_row ?_, ?_, fun x => ?_, hb⟩
  · rw [List.length_mergeSort]; exact hrow
  · rw [sort_rise hnd]; exact rise_rise ss
  · rw [(List.mergeSort_perm ss _).mem_iff]; exact hmem x
theorem SortedN_any {w : World} {gb : Nat} (hf : Fs w gb [.map none]) :
    Calls Try.prog 34 #[.func (.func 48) #[] #[.pointer (some ⟨gb, 0, none⟩)]] w fun e w' =>
      ∃ (v : Value), e = .returned v ∧ OwnI w.heap.size w' v [] ∧ Ext w w' := by
  refine (callsIn_wide (n := 5)).1 ?_
  have hseq := AnyZI.keys_gives_nil (ρ := Try.keysIL_ren) { Try.keysIL with } Fence.wide (5 - 1 - 1 - 1) trivial rfl gb w hf.lt (hf.cell (i := 0) rfl)
  have cS := AnyZI.sorted_in Try.sortedL Fence.wide 5 trivial trivial trivial trivial rfl (by omega) (Try.sortsL _) (enters_of Try.func38 (by kernel_rfl) rfl) 48 #[.pointer (some ⟨gb, 0, none⟩)] trivial (enters_of Try.func48 (by kernel_rfl) rfl) _ _ (by unfold maxLen; omega) (by omega) _ hseq
  refine CallsIn.mono cS ?_
  rintro e w' ⟨v, ss, rfl, rfl, hrow, _, hb⟩
  exact ⟨v, rfl, OwnI.of_row (show w'.ownsRow w.heap.size 3 1 v _ _ from (by simpa using (show w'.ownsRow w.heap.size 3 1 v _ _ from hrow))), hb⟩
theorem SortedR_any {w : World} {gb N : Nat} {mb : Option Nat} {f : Nat → Option Int} (hf : Fs w gb [.map mb]) (h : InR N w mb f) (hn : N ≤ 400) {L : List Int} (hL : Rise L) (hmem : ∀ x, x ∈ L ↔ In64 x ∧ (fat f x).isSome = true) :
    Calls Try.prog 34 #[.func (.func 48) #[] #[.pointer (some ⟨gb, 0, none⟩)]] w fun e w' =>
      ∃ (v : Value), e = .returned v ∧ OwnI w.heap.size w' v L ∧ Ext w w' := by
  cases mb with
  | none =>
    refine (SortedN_any hf).mono ?_
    rintro e w' ⟨v, rfl, o, hx⟩
    have : L = [] := List.eq_nil_iff_forall_not_mem.2 fun x hx => by
      have h1 := ((hmem x).1 hx).2
      have : fat f x = none := by unfold fat; split; rfl; exact h _
      rw [this] at h1; cases h1
    subst this
    exact ⟨v, rfl, o, hx⟩
  | some b =>
    obtain ⟨n, D, h0, h1, h2⟩ := h
    refine (SortedI_any hf h1 (by omega)).mono ?_
    rintro e w' ⟨v, l, rfl, o, hr, hm, hx⟩
    have : l = L := Rise.eq hr hL fun x => by
      rw [hm, hmem]
      constructor
      · intro hh
        have hi := has_in64 h1 hh
        exact ⟨hi, by rw [← (h2.2 x hi).1]; exact hh⟩
      · rintro ⟨hi, hh⟩
        rw [(h2.2 x hi).1]; exact hh
    subst this
    exact ⟨v, rfl, o, hx⟩
theorem fat_some {T : Tab} {n : Nat} (h : TabOk T n) {k v x y : Int} (hx : fat (T k v) x = some y) : ∃ i : Nat, x = (i : Int) ∧ i < n ∧ T k v i = some y := by
  unfold fat at hx
  split at hx
  · cases hx
  · have := h _ _ _ _ hx
    exact ⟨x.toNat, by omega, this.2.2.1, hx⟩
theorem mem_all {T : Tab} {n : Nat} (h : TabOk T n) (hn : n ≤ 7) {k v : Int} (x : Int) : x ∈ T.all n k v ↔ In64 x ∧ (fat (T k v) x).isSome = true := by
  unfold Tab.all
  rw [mem_picks]
  constructor
  · rintro ⟨i, hi, hp, rfl⟩
    exact ⟨In64.nat (by omega), by rw [fat_nat]; exact hp⟩
  · rintro ⟨_, hs⟩
    obtain ⟨y, hy⟩ := Option.isSome_iff_exists.1 hs
    obtain ⟨i, rfl, hi, ht⟩ := fat_some h hy
    exact ⟨i, hi, by unfold Tab.any; rw [ht]; rfl, rfl⟩

set_option maxRecDepth 100000 in
set_option maxHeartbeats 1600000 in
theorem TAll_any {X : Nat → Prop} {w : World} {p : Nat} {t : List Int} {T : Tab} {N : Nat} {k v : Int} (h0 : Tal X w p t T N) (hN : N ≤ 400) (hk0 : In64 k) (hv0 : In64 v) {L : List Int} (hL0 : T.all t.length k v = L) :
    Calls Try.prog 14 #[.pointer (some ⟨p, 0, none⟩), .int .i64 k, .int .i64 v] w fun e w' => ∃ u, e = .returned u ∧ OwnI w.heap.size w' u L ∧ Ext w w' := by
  refine calls_keep ?_
  obtain ⟨sv, g, D, m, h⟩ := h0
  have f0 := hide_ h.obj
  have hown := hide_ h.own
  have hrnd := hide_ h.rnd
  have hin := hide_ (h.inn k v)
  have hk := hide_ hk0
  have hv := hide_ hv0
  have hL := hide_ (show Rise L ∧ ∀ x, x ∈ L ↔ In64 x ∧ (fat (T k v) x).isSome = true from by
    subst hL0
    exact ⟨rise_picks _ _, mem_all h.ok h.st.2.1⟩)
  have hX := Ext.refl w
  clear h hk0 hv0 hL0
  go_enter Try.func14, Try.ntmps14
  go_wp2_with ((first
    | (go_at_call 36; refine (KeysI_any _ _).mono ?_; rintro e w2 ⟨gb, rfl, fb, hgb, hx⟩; replace hX := hX.trans hx; clear hx)
    | (go_at_call 34; refine (SortedR_any fb (hin.out.ext hX) hN hL.out.1 hL.out.2).mono ?_; rintro e w3 ⟨u, rfl, o3, hx⟩; have hs3 := hX.size; replace hX := hX.trans hx; clear hx)
    | ((with_reducible refine at_field ?_); refine w_field Try.stTal _ _ _ rfl rfl rfl (by omega) ?_)
    | ((with_reducible refine at_load ?_); refine w_fload _ rfl rfl rfl (f0.out.ext hX) rfl (agg_of (by kernel_rfl)) ?_)
    | ((with_reducible refine at_sbuild ?_); refine w_sbuild Try.stRnd [.int .i64 k, .int .i64 v] rfl rfl rfl (by intro x hx; simp at hx; rcases hx with rfl | rfl; exact ⟨by decide, rfl⟩; exact ⟨by decide, rfl⟩) ?_)
    | ((with_reducible refine at_look ?_); refine w_rlook _ _ rfl rfl rfl rfl hk.out hv.out (ownsMap_ext hown.out hX) hrnd.out ?_)
    | fail) <;> (try simp only [Act.put, List.setIfInBounds_toArray, List.set_cons_zero, List.set_cons_succ]))
  go_ret
  exact Keep.intro ⟨u, rfl, o3.mono hs3, hX⟩
end Go.Proofs.Ytmhmkaginnddeaa
