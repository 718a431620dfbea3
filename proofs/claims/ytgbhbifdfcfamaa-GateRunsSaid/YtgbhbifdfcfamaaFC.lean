/- A region that draws its order, in phases: between operations that write to what was there (gates, each of which waits for all before it and is awaited by all behind it) each operation only adds memory: go through it once, in the order of the text. · A list written out, []T{} and append([]T{}, x...) as operations of a region that draws its order. · A struct's variable of its own, a record of a slice, as operations of a region that draws its order. · Strings put together, as a step of a walk and as an operation of a region. · Records written out as a slice, as an operation of a region that draws its order. · A cut whose bounds are integers of whatever kind. · Strings of bytes. -/
import Derived.Test.YtgbhbifdfcfamaaFA
import Derived.Test.YtgbhbifdfcfamaaFB
import Derived.Laws.Concat
namespace Go.Proofs.Ytgbhbifdfcfamaa
set_option maxRecDepth 100000
open Go.RowKit

def readsOkL (ops : Array Oper) (lo i : Nat) (reads : List (Tmp × Option Nat)) : Bool :=
  match ops[lo + i]? with
  | none => false
  | some o => (o.looksAt ops).all (fun t => reads.any fun r => r.1 == t) && (deps o).all (fun j => decide (j < lo + i)) &&
    reads.all fun r => match r.2 with
      | some j => (deps o).contains (lo + j) && ((ops[lo + j]?).bind (·.dst) == some r.1)
      | none => (List.range ops.size).all fun k => decide (k < lo) || (((ops[k]?).bind (·.dst)) != some r.1) || k == lo + i || (((ops[k]?).map fun ok => (deps ok).contains (lo + i)).getD false)

def dstsOkL (ops : Array Oper) (lo n : Nat) : Bool :=
  (List.range ops.size).all fun j => decide (j < lo) || match (ops[j]?).bind (·.dst) with
    | none => true
    | some t => decide (t < n) && (List.range ops.size).all fun k => decide (k < lo) || k == j || ((ops[k]?).bind (·.dst)) != some t

structure HopL (P : Program) (ops : Array Oper) (lo n : Nat) (S : List Sp) (a : Act) (w : World) : Prop where
  len : S.length = n
  le : lo + n ≤ ops.size
  uniq : dstsOkL ops lo a.tmps.size = true
  op : ∀ i, i < n → ∃ o reads, ops[lo + i]? = some o ∧ readsOkL ops lo i reads = true ∧ opOk P ops a w (S.take i) o reads (S.getD i (.val undef))

structure RInvL (ops : Array Oper) (lo : Nat) (S : List Sp) (a : Act) (w : World) (listed : Array Bool) (a' : Act) (w' : World) : Prop where
  ext : Ext w w'
  defers : a'.defers = a.defers
  size : a'.tmps.size = a.tmps.size
  told : ∀ (j : Nat) (o : Oper) (t : Tmp), ops[lo + j]? = some o → o.dst = some t → listed[lo + j]? = some true → (S.getD j (.val undef)).p (a'.tmps.getD t undef) w'
  kept : ∀ t : Tmp, (∀ (j : Nat) (o : Oper), lo ≤ j → ops[j]? = some o → o.dst = some t → listed[j]? = some false) → a'.tmps[t]? = a.tmps[t]?
  mute : ∀ (j : Nat) (o : Oper), ops[lo + j]? = some o → o.dst = none → listed[lo + j]? = some true → ∃ v, (S.getD j (.val undef)).p v w'

theorem given_ofL {ops : Array Oper} {lo : Nat} {S : List Sp} {a : Act} {w : World} {listed : Array Bool} {a' : Act} {w' : World} (hI : RInvL ops lo S a w listed a' w') {i : Nat} {o : Oper} (hi : ops[lo + i]? = some o)
    (hun : listed[lo + i]? = some false) (hall : ∀ j ∈ deps o, listed[j]? = some true) (hlater : ∀ (k : Nat) (ok : Oper), ops[k]? = some ok → lo + i ∈ deps ok → listed[k]? = some false) (hd : ∀ j ∈ deps o, j < lo + i) :
    ∀ reads : List (Tmp × Option Nat), (∀ r ∈ reads, match r.2 with
      | some j => (deps o).contains (lo + j) = true ∧ ((ops[lo + j]?).bind (·.dst) = some r.1)
      | none => ∀ k : Nat, k < ops.size → k < lo ∨ ((ops[k]?).bind (·.dst)) ≠ some r.1 ∨ k = lo + i ∨ (((ops[k]?).map fun ok => (deps ok).contains (lo + i)).getD false) = true) → Given a (S.take i) a' w' reads
  | [], _ => trivial
  | (t, none) :: r, h => by
    refine ⟨?_, given_ofL hI hi hun hall hlater hd r fun x hx => h x (List.mem_cons_of_mem _ hx)⟩
    have h0 := h _ (List.mem_cons_self ..)
    simp only at h0
    have := hI.kept t fun k ok hkl hk hkd => by
      have hks : k < ops.size := (Array.getElem?_eq_some_iff.1 hk).1
      rcases h0 k hks with h1 | h1 | rfl | h1
      · omega
      · rw [hk] at h1; exact absurd hkd h1
      · exact hun
      · rw [hk] at h1; exact hlater k ok hk (by simpa using h1)
    simp [Array.getD_eq_getD_getElem?, this]
  | (t, some j) :: r, h => by
    refine ⟨?_, given_ofL hI hi hun hall hlater hd r fun x hx => h x (List.mem_cons_of_mem _ hx)⟩
    have h0 := h _ (List.mem_cons_self ..)
    simp only at h0
    obtain ⟨h1, h2⟩ := h0
    have hj : lo + j ∈ deps o := by simpa using h1
    cases ho : ops[lo + j]? with
    | none => rw [ho] at h2; simp at h2
    | some oj =>
      rw [ho] at h2
      have := hI.told j oj t ho (by simpa using h2) (hall _ hj)
      have hlt := hd _ hj
      rw [List.getD_eq_getElem?_getD, List.getElem?_take_of_lt (by omega), ← List.getD_eq_getElem?_getD]
      exact this

section hop
variable {P : Program} {ops : Array Oper} {lo n : Nat} {S : List Sp} {a : Act} {w : World} {Q : Exit → Act → World → Prop}

theorem HopL.dlt (H : HopL P ops lo n S a w) : ∀ (i : Nat) (o : Oper), i < n → ops[lo + i]? = some o → ∀ j ∈ deps o, j < lo + i := fun i o hin hi j hj => by
  obtain ⟨o', reads, ho, hr, _⟩ := H.op i hin
  rw [hi] at ho; cases ho
  simp only [readsOkL, hi, Bool.and_eq_true, List.all_eq_true] at hr
  simpa using hr.1.2 j hj

theorem HopL.one (H : HopL P ops lo n S a w) : ∀ (j : Nat) (o : Oper) (t : Tmp), lo ≤ j → ops[j]? = some o → o.dst = some t → t < a.tmps.size ∧ ∀ (k : Nat) (ok : Oper), lo ≤ k → k ≠ j → ops[k]? = some ok → ok.dst ≠ some t := fun j o t hlj hj hd => by
  have hjs := (Array.getElem?_eq_some_iff.1 hj).1
  have hu := H.uniq
  simp only [dstsOkL, List.all_eq_true, List.mem_range, Bool.or_eq_true, decide_eq_true_eq] at hu
  have h1 := (hu j hjs).resolve_left (by omega)
  simp only [hj, Option.bind_some, hd, Bool.and_eq_true, decide_eq_true_eq, List.all_eq_true, List.mem_range] at h1
  refine ⟨h1.1, fun k ok hlk hk hok he => ?_⟩
  have h2 := h1.2 k (Array.getElem?_eq_some_iff.1 hok).1
  simp [hok, he, hk] at h2
  omega

/-- All of the phase have come up, none behind it. -/
theorem HopL.final (H : HopL P ops lo n S a w) {K : Act → World → Prop} {listed : Array Bool} {a' : Act} {w' : World} (hF : Fin' K w' ((ops.toList.drop lo).take n) S a) (hall : ∀ i, i < n → listed[lo + i]? = some true) (htl : ∀ i, lo + n ≤ i → i < ops.size → listed[i]? = some false)
    (hI : RInvL ops lo S a w listed a' w') : K a' w' := by
  have hS := H.len
  have hle := H.le
  have hget : ∀ i, i < n → ((ops.toList.drop lo).take n)[i]? = ops[lo + i]? := fun i hi => by rw [List.getElem?_take_of_lt hi, List.getElem?_drop]; simp
  have hget2 : ∀ (i : Nat) (o : Oper), ((ops.toList.drop lo).take n)[i]? = some o → i < n ∧ ops[lo + i]? = some o := fun i o hi => by
    have hin : i < n := by
      have := (List.getElem?_eq_some_iff.1 hi).1
      rw [List.length_take] at this; omega
    exact ⟨hin, by rw [← hget i hin]; exact hi⟩
  have hex : ∀ i, i < S.length → ∃ v, (S.getD i (.val undef)).p v w' ∧ ∀ (o : Oper) (t : Tmp), ops[lo + i]? = some o → o.dst = some t → a'.tmps[t]? = some v := by
    intro i hi
    have hio : i < n := by omega
    obtain ⟨o, _, ho, _⟩ := H.op i hio
    cases hd : o.dst with
    | none =>
      obtain ⟨v, hv⟩ := hI.mute i o ho hd (hall i hio)
      exact ⟨v, hv, fun o' t ho' hd' => by rw [ho] at ho'; cases ho'; rw [hd] at hd'; cases hd'⟩
    | some t =>
      refine ⟨a'.tmps.getD t undef, hI.told i o t ho hd (hall i hio), fun o' t' ho' hd' => ?_⟩
      rw [ho] at ho'; cases ho'; rw [hd] at hd'; cases hd'
      have hlt : t < a'.tmps.size := by rw [hI.size]; exact (H.one _ o t (Nat.le_add_right _ _) ho hd).1
      rw [Array.getD_eq_getD_getElem?, Array.getElem?_eq_getElem hlt]; rfl
  let f : Nat → Value := fun i => if h : i < S.length then (hex i h).choose else undef
  let vs : List Value := (List.range S.length).map f
  have hvs : ∀ i, i < S.length → vs[i]? = some (f i) := fun i hi => by simp [vs, List.getElem?_range hi]
  have hfs : ∀ i (hi : i < S.length), (S.getD i (.val undef)).p (f i) w' ∧ ∀ (o : Oper) (t : Tmp), ops[lo + i]? = some o → o.dst = some t → a'.tmps[t]? = some (f i) := fun i hi => by
    have := (hex i hi).choose_spec
    simp only [f, hi, dif_pos]; exact this
  have hput : a' = puts ((ops.toList.drop lo).take n) vs a := by
    have htm : a'.tmps = (puts ((ops.toList.drop lo).take n) vs a).tmps := by
      apply Array.ext_getElem?
      intro t
      by_cases hw : ∃ (j : Nat) (o : Oper), j < n ∧ ops[lo + j]? = some o ∧ o.dst = some t
      · obtain ⟨j, o, hjn, hj, hd⟩ := hw
        have hjs : j < S.length := by omega
        rw [(hfs j hjs).2 o t hj hd]
        exact (puts_at ((ops.toList.drop lo).take n) vs a j o t (f j) (by rw [hget j hjn]; exact hj) hd (hvs j hjs) (H.one _ o t (Nat.le_add_right _ _) hj hd).1 fun i o' hij hi => (H.one _ o t (Nat.le_add_right _ _) hj hd).2 (lo + i) o' (Nat.le_add_right _ _) (by omega) (hget2 i o' hi).2).symm
      · rw [puts_other ((ops.toList.drop lo).take n) vs a t fun i o hi hd => hw ⟨i, o, (hget2 i o hi).1, (hget2 i o hi).2, hd⟩]
        exact hI.kept t fun j o hlj hj hd => by
          by_cases hjn : j < lo + n
          · exact absurd ⟨j - lo, o, by omega, by rw [show lo + (j - lo) = j from by omega]; exact hj, hd⟩ hw
          · exact htl j (by omega) (Array.getElem?_eq_some_iff.1 hj).1
    have hde : a'.defers = (puts ((ops.toList.drop lo).take n) vs a).defers := by rw [puts_defers]; exact hI.defers
    cases a'; cases hp : puts ((ops.toList.drop lo).take n) vs a; simp_all
  rw [hput]
  exact Fin'.use ((ops.toList.drop lo).take n) S vs a (by rw [List.length_take, List.length_drop]; simp; omega) (by simp [vs]) (fun i hi => by
    rw [List.getD_eq_getElem?_getD (l := vs), hvs i hi]; exact (hfs i hi).1) hF

/-- One operation that may come up comes up. -/
theorem HopL.step (H : HopL P ops lo n S a w) {listed : Array Bool} {a' : Act} {w' : World} (hls : listed.size = ops.size) (hcl : Closed ops listed) (hI : RInvL ops lo S a w listed a' w') {i : Nat} {o : Oper} (hin : i < n) (ho : ops[lo + i]? = some o)
    (hun : listed[lo + i]? = some false) (hdeps : ∀ j ∈ deps o, listed[j]? = some true) {K : Act → World → Prop}
    (hK : ∀ a'' w'', Closed ops (listed.setIfInBounds (lo + i) true) → RInvL ops lo S a w (listed.setIfInBounds (lo + i) true) a'' w'' → K a'' w'') : wpOp P ops Q (lo + i) K a' w' := by
  have hdlt := H.dlt
  have huniq := H.one
  have his : lo + i < ops.size := (Array.getElem?_eq_some_iff.1 ho).1
  have hil : lo + i < listed.size := by omega
  have hS := H.len
  obtain ⟨o', reads, ho', hr, hok⟩ := H.op i hin
  rw [ho] at ho'; cases ho'
  simp only [readsOkL, ho, Bool.and_eq_true, List.all_eq_true] at hr
  have hlater : ∀ (k : Nat) (ok : Oper), ops[k]? = some ok → lo + i ∈ deps ok → listed[k]? = some false := fun k ok hk hd => by
    have hks : k < listed.size := by rw [hls]; exact (Array.getElem?_eq_some_iff.1 hk).1
    cases hb : listed[k] with
    | false => rw [Array.getElem?_eq_getElem hks, hb]
    | true =>
      have := hcl k ok hk (by rw [Array.getElem?_eq_getElem hks, hb]) _ hd
      rw [hun] at this; cases this
  have hg := given_ofL hI ho hun hdeps hlater (hdlt i o hin ho) reads fun r hrm => by
    have h2 := hr.2 r hrm
    cases hj : r.2 with
    | some j => rw [hj] at h2; simpa using h2
    | none =>
      rw [hj] at h2
      simp only [List.all_eq_true, List.mem_range, Bool.or_eq_true, bne_iff_ne, beq_iff_eq, decide_eq_true_eq] at h2
      intro k hk
      rcases h2 k hk with ((h3 | h3) | h3) | h3
      · exact .inl h3
      · exact .inr (.inl h3)
      · exact .inr (.inr (.inl h3))
      · exact .inr (.inr (.inr h3))
  have hstep := hok a' w' hI.ext hg
  have next : ∀ v w'', Ext w' w'' → (S.getD i (.val undef)).p v w'' → K (a'.put o.dst v) w'' := by
    intro v w'' hx hs
    refine hK _ _ ?_ ?_
    · intro k ok hk hl j hj
      by_cases hki : k = lo + i
      · subst hki; rw [ho] at hk; cases hk
        have hne : lo + i ≠ j := by have := hdlt _ _ hin ho j hj; omega
        rw [Array.getElem?_setIfInBounds_ne hne]; exact hdeps j hj
      · rw [Array.getElem?_setIfInBounds_ne (Ne.symm hki)] at hl
        have := hcl k ok hk hl j hj
        by_cases hij : lo + i = j
        · subst hij; rw [hun] at this; cases this
        · rw [Array.getElem?_setIfInBounds_ne hij]; exact this
    · refine ⟨hI.ext.trans hx, by rw [Act.put_defers']; exact hI.defers, by rw [Act.put_size]; exact hI.size, ?_, ?_, ?_⟩
      · intro j oj t hj hd hl
        by_cases hij : lo + i = lo + j
        · obtain rfl : i = j := by omega
          rw [ho] at hj; cases hj
          have hlt : t < a'.tmps.size := by rw [hI.size]; exact (huniq _ _ _ (Nat.le_add_right _ _) ho hd).1
          rw [hd, Array.getD_eq_getD_getElem?, Act.put_get]; simp [hlt]; exact hs
        · rw [Array.getElem?_setIfInBounds_ne hij] at hl
          have h1 := hI.told j oj t hj hd hl
          have hne : o.dst ≠ some t := (huniq _ oj t (Nat.le_add_right _ _) hj hd).2 _ o (Nat.le_add_right _ _) hij ho
          have : (a'.put o.dst v).tmps.getD t undef = a'.tmps.getD t undef := by
            cases hod : o.dst with
            | none => rfl
            | some d => rw [Array.getD_eq_getD_getElem?, Act.put_get, if_neg (by rintro rfl; exact hne hod), ← Array.getD_eq_getD_getElem?]
          rw [this]; exact Sp.ext h1 hx
      · intro t ht
        have hne : o.dst ≠ some t := fun hd => by
          have := ht _ o (Nat.le_add_right _ _) ho hd
          rw [Array.getElem?_setIfInBounds_self_of_lt hil] at this; cases this
        have : (a'.put o.dst v).tmps[t]? = a'.tmps[t]? := by
          cases hod : o.dst with
          | none => rfl
          | some d => rw [Act.put_get, if_neg (by rintro rfl; exact hne hod)]
        rw [this]
        refine hI.kept t fun j oj hlj hj hd => ?_
        have := ht j oj hlj hj hd
        by_cases hij : lo + i = j
        · subst hij; rw [Array.getElem?_setIfInBounds_self_of_lt hil] at this; cases this
        · rwa [Array.getElem?_setIfInBounds_ne hij] at this
      · intro j oj hj hd hl
        by_cases hij : lo + i = lo + j
        · obtain rfl : i = j := by omega
          exact ⟨v, hs⟩
        · rw [Array.getElem?_setIfInBounds_ne hij] at hl
          obtain ⟨u, hu'⟩ := hI.mute j oj hj hd hl
          exact ⟨u, Sp.ext hu' hx⟩
  unfold wpOp
  simp only [ho]
  split
  · rename_i hw
    rw [if_pos hw] at hstep
    exact .inl (Oper.wp_noQ (fun σ' w'' ⟨v, he, hx, hs⟩ => by subst he; exact next v w'' hx hs) hstep)
  · rename_i hw
    rw [if_neg hw] at hstep
    exact next undef w' (Ext.refl _) hstep

theorem ready_iffL (ops : Array Oper) {listed : Array Bool} (hls : listed.size = ops.size) (i : Nat) : i ∈ Region.ready .any ops listed ↔ ∃ o : Oper, ops[i]? = some o ∧ listed[i]? = some false ∧ ∀ j ∈ deps o, listed[j]? = some true := by
  simp only [Region.ready, List.mem_filter, List.mem_range, Bool.and_eq_true, Bool.not_eq_true']
  constructor
  · rintro ⟨hi, h1, h2⟩
    have ho : ops[i]? = some ops[i] := Array.getElem?_eq_getElem hi
    have hlt : i < listed.size := by omega
    refine ⟨_, ho, ?_, fun j hj => ?_⟩
    · rw [Array.getElem?_eq_getElem hlt]; simpa [Array.getD_eq_getD_getElem?, Array.getElem?_eq_getElem hlt] using h1
    · simp only [ho, Option.map_some, Option.getD_some] at h2
      simp only [deps, List.mem_map, List.mem_filter, Array.mem_toList_iff] at hj
      obtain ⟨e, ⟨he, hb⟩, rfl⟩ := hj
      have h3 := Array.all_eq_true_iff_forall_mem.1 h2 e he
      simp only [hb, Bool.not_true, Bool.false_or] at h3
      rw [Array.getD_eq_getD_getElem?] at h3
      cases hx : listed[e.on]? with
      | none => rw [hx] at h3; simp at h3
      | some b => rw [hx] at h3; simp at h3; rw [h3]
  · rintro ⟨o, ho, h1, h2⟩
    refine ⟨(Array.getElem?_eq_some_iff.1 ho).1, by simp [Array.getD_eq_getD_getElem?, h1], ?_⟩
    simp only [ho, Option.map_some, Option.getD_some]
    refine Array.all_eq_true_iff_forall_mem.2 fun e he => ?_
    by_cases hb : Region.binds .any e = true
    · have := h2 e.on (by simp only [deps, List.mem_map, List.mem_filter, Array.mem_toList_iff]; exact ⟨e, ⟨he, hb⟩, rfl⟩)
      simp [hb, Array.getD_eq_getD_getElem?, this]
    · simp [hb]

/-- What is done when the first n have come up. -/
def doneTo (ops : Array Oper) (n : Nat) : Array Bool := ((List.range ops.size).map fun i => decide (i < n)).toArray
theorem doneTo_size (ops : Array Oper) (n : Nat) : (doneTo ops n).size = ops.size := by simp [doneTo]
theorem doneTo_get (ops : Array Oper) (n : Nat) {i : Nat} (hi : i < ops.size) : (doneTo ops n)[i]? = some (decide (i < n)) := by simp [doneTo, List.getElem?_range hi]

/-- The region from its operation lo on. -/
def Ph (P : Program) (ops : Array Oper) (Q : Exit → Act → World → Prop) (lo : Nat) (a : Act) (w : World) : Prop := wpAny P .any ops Q (ops.size - lo) (doneTo ops lo) a w

/-- Within a phase: nothing behind it may come up before all of it has. -/
theorem wpAny_phase (H : HopL P ops lo n S a w) (hwait : ∀ listed : Array Bool, listed.size = ops.size → Closed ops listed → (∃ i, lo ≤ i ∧ i < lo + n ∧ listed[i]? = some false) → ∀ i, i ∈ Region.ready .any ops listed → i < lo + n)
    (hQ : ∀ w' , Ext w w' → Fin' (Ph P ops Q (lo + n)) w' ((ops.toList.drop lo).take n) S a) :
    ∀ (f : Nat) (listed : Array Bool) (a' : Act) (w' : World), listed.size = ops.size → ((listed.toList.drop lo).take n).count false = f → Closed ops listed → (∀ i, i < lo → listed[i]? = some true) → (∀ i, lo + n ≤ i → i < ops.size → listed[i]? = some false) → RInvL ops lo S a w listed a' w' →
      wpAny P .any ops Q (f + (ops.size - (lo + n))) listed a' w' := by
  have hle := H.le
  intro f
  have htake : ∀ (listed : Array Bool) (i : Nat), i < n → listed.size = ops.size → ((listed.toList.drop lo).take n)[i]? = listed[lo + i]? := fun listed i hi hls => by rw [List.getElem?_take_of_lt hi, List.getElem?_drop]; simp
  induction f with
  | zero =>
    intro listed a' w' hls hcnt hcl hhd htl hI
    have hall : ∀ i, i < n → listed[lo + i]? = some true := fun i hi => by
      have hm : false ∉ (listed.toList.drop lo).take n := List.count_eq_zero.1 hcnt
      have hlt : lo + i < listed.size := by omega
      rw [Array.getElem?_eq_getElem hlt]
      cases hb : listed[lo + i] with
      | true => rfl
      | false => exact absurd (List.mem_of_getElem? (by rw [htake listed i hi hls, Array.getElem?_eq_getElem hlt, hb])) hm
    have hlist : listed = doneTo ops (lo + n) := by
      apply Array.ext_getElem?
      intro i
      by_cases hi : i < ops.size
      · rw [doneTo_get ops _ hi]
        by_cases hin : i < lo + n
        · by_cases hil : i < lo
          · rw [hhd i hil]; simp [hin]
          · have := hall (i - lo) (by omega)
            rw [show lo + (i - lo) = i from by omega] at this
            rw [this]; simp [hin]
        · rw [htl i (by omega) hi]; simp [hin]
      · rw [Array.getElem?_eq_none (by omega), Array.getElem?_eq_none (by rw [doneTo_size]; omega)]
    have hK := H.final (hQ w' hI.ext) hall htl hI
    rw [Nat.zero_add, hlist]
    exact hK
  | succ f ih =>
    intro listed a' w' hls hcnt hcl hhd htl hI
    obtain ⟨i0, hi0, hu0⟩ : ∃ i, i < n ∧ listed[lo + i]? = some false := by
      have hm : false ∈ (listed.toList.drop lo).take n := List.count_pos_iff.1 (by omega)
      obtain ⟨i, hi, he⟩ := List.getElem_of_mem hm
      have hin : i < n := by rw [List.length_take] at hi; omega
      refine ⟨i, hin, ?_⟩
      rw [← htake listed i hin hls, List.getElem?_eq_getElem hi, he]
    rw [show f + 1 + (ops.size - (lo + n)) = (f + (ops.size - (lo + n))) + 1 from by omega]
    refine ⟨fun hnil => ?_, fun i hi => ?_⟩
    · exfalso
      have hno : ∀ i, i < n → listed[lo + i]? = some true := by
        intro i
        induction i using Nat.strongRecOn with
        | _ i ihi =>
          intro hi
          obtain ⟨o, _, ho, _⟩ := H.op i hi
          have hlt : lo + i < listed.size := by omega
          cases hb : listed[lo + i] with
          | true => rw [Array.getElem?_eq_getElem hlt, hb]
          | false =>
            have : lo + i ∈ Region.ready .any ops listed := (ready_iffL ops hls _).2 ⟨o, ho, by rw [Array.getElem?_eq_getElem hlt, hb], fun j hj => by
              have hj2 := H.dlt i o hi ho j hj
              by_cases hjl : j < lo
              · exact hhd j hjl
              · have := ihi (j - lo) (by omega) (by omega)
                rwa [show lo + (j - lo) = j from by omega] at this⟩
            rw [hnil] at this; cases this
      rw [hno i0 hi0] at hu0; cases hu0
    · have hin : i < lo + n := hwait listed hls hcl ⟨lo + i0, by omega, by omega, hu0⟩ i hi
      obtain ⟨o, ho, hun, hdeps⟩ := (ready_iffL ops hls i).1 hi
      have hil : lo ≤ i := by
        rcases Nat.lt_or_ge i lo with h | h
        · rw [hhd i h] at hun; cases hun
        · exact h
      obtain ⟨j, rfl⟩ : ∃ j, i = lo + j := ⟨i - lo, by omega⟩
      refine H.step hls hcl hI (by omega) ho hun hdeps fun a'' w'' hcl' hI' => ih _ _ _ (by simpa using hls) ?_ hcl' (fun k hk => by rw [Array.getElem?_setIfInBounds_ne (by omega)]; exact hhd k hk) (fun k hk1 hk2 => by rw [Array.getElem?_setIfInBounds_ne (by omega)]; exact htl k hk1 hk2) hI'
      have hlf : ((listed.toList.drop lo).take n)[j]? = some false := by rw [htake listed j (by omega) hls]; exact hun
      have := count_set_true _ _ hlf
      rw [Array.toList_setIfInBounds, List.drop_set, if_neg (by omega), List.take_set]
      rw [show lo + j - lo = j from by omega]
      omega
end hop

/-! ### The phase's operations, told from the last backwards -/
def LinL (P : Program) (ops : Array Oper) (a : Act) (w : World) (lo : Nat) (R : List Sp → Prop) : Nat → Nat → List Sp → Prop
  | 0, _, r => R r.reverse
  | f + 1, i, r => ∃ o reads s, ops[lo + i]? = some o ∧ readsOkL ops lo i (conv i reads) = true ∧ (reads.all fun x => match x.2 with | some k => decide (k < i) | none => true) = true ∧
      opOk P ops a w r o reads s ∧ LinL P ops a w lo R f (i + 1) (s :: r)

theorem linL_list {P : Program} {ops : Array Oper} {a : Act} {w : World} {lo : Nat} {R : List Sp → Prop} : ∀ (f : Nat) (r : List Sp), LinL P ops a w lo R f r.length r →
    ∃ S, R S ∧ S.length = r.length + f ∧ (∀ i, i < r.length → S[i]? = r.reverse[i]?) ∧
      ∀ i, r.length ≤ i → i < r.length + f → ∃ o reads, ops[lo + i]? = some o ∧ readsOkL ops lo i reads = true ∧ opOk P ops a w (S.take i) o reads (S.getD i (.val undef))
  | 0, r, h => ⟨r.reverse, h, by simp, fun _ _ => rfl, fun i h1 h2 => by omega⟩
  | f + 1, r, h => by
    obtain ⟨o, reads, s, h1, h2, h3, h4, h5⟩ := h
    obtain ⟨S, hR, hl, hp, hs⟩ := linL_list f (s :: r) h5
    simp only [List.length_cons] at hl hp hs
    refine ⟨S, hR, by omega, fun i hi => by rw [hp i (by omega), List.reverse_cons, List.getElem?_append_left (by simpa using hi)], fun i hi1 hi2 => ?_⟩
    by_cases he : i = r.length
    · subst he
      have ht : S.take r.length = r.reverse := by
        apply List.ext_getElem?
        intro i
        by_cases hi : i < r.length
        · rw [List.getElem?_take_of_lt hi, hp i (by omega), List.reverse_cons, List.getElem?_append_left (by simpa using hi)]
        · rw [List.getElem?_eq_none (by rw [List.length_take]; omega), List.getElem?_eq_none (by simp; omega)]
      refine ⟨o, conv r.length reads, h1, h2, ?_⟩
      rw [ht]
      have : S.getD r.length (.val undef) = s := by
        rw [List.getD_eq_getElem?_getD, hp _ (by omega), List.reverse_cons, List.getElem?_append_right (by simp)]; simp
      rw [this]
      exact fun σ w' hx hg => h4 σ w' hx (given_conv reads h3 hg)
    · exact hs i (by omega) (by omega)

theorem LinL.step {P : Program} {ops : Array Oper} {a : Act} {w : World} {lo : Nat} {R : List Sp → Prop} {f i : Nat} {r : List Sp} {o : Oper} (reads : List (Tmp × Option Nat)) {s : Sp} (h1 : ops[lo + i]? = some o)
    (h2 : (readsOkL ops lo i (conv i reads) && reads.all fun x => match x.2 with | some k => decide (k < i) | none => true) = true) (h4 : opOk P ops a w r o reads s) (h5 : LinL P ops a w lo R f (i + 1) (s :: r)) :
    LinL P ops a w lo R (f + 1) i r := by
  rw [Bool.and_eq_true] at h2
  exact ⟨o, reads, s, h1, h2.1, h2.2, h4, h5⟩

theorem hopL_of {P : Program} {ops : Array Oper} {a : Act} {w : World} {lo n : Nat} {R : List Sp → Prop} (hle : lo + n ≤ ops.size) (hu : dstsOkL ops lo a.tmps.size = true) (h : LinL P ops a w lo R n 0 []) : ∃ S, R S ∧ HopL P ops lo n S a w := by
  obtain ⟨S, hR, hl, _, hs⟩ := linL_list n [] h
  simp only [List.length_nil, Nat.zero_add] at hl hs
  exact ⟨S, hR, hl, hle, hu, fun i hi => hs i (Nat.zero_le _) hi⟩

theorem rinvL_start {ops : Array Oper} {lo : Nat} {S : List Sp} {a : Act} {w : World} : RInvL ops lo S a w (doneTo ops lo) a w := by
  have hno : ∀ (j : Nat) (o : Oper), ops[lo + j]? = some o → (doneTo ops lo)[lo + j]? ≠ some true := fun j o hj => by
    rw [doneTo_get ops _ (Array.getElem?_eq_some_iff.1 hj).1]; simp
  exact ⟨Ext.refl _, rfl, rfl, fun j o t hj hd hl => absurd hl (hno j o hj), fun t h => rfl, fun j o hj hd hl => absurd hl (hno j o hj)⟩
/-- The first ones wait for none behind them. -/
def closedB (ops : Array Oper) (lo : Nat) : Bool := (List.range lo).all fun i => match ops[i]? with | some o => (deps o).all fun j => decide (j < lo) | none => true
theorem closed_doneTo {ops : Array Oper} {lo : Nat} (h : closedB ops lo = true) (hlo : lo ≤ ops.size) : Closed ops (doneTo ops lo) := by
  intro i o hi hl j hj
  have his := (Array.getElem?_eq_some_iff.1 hi).1
  rw [doneTo_get ops _ his] at hl
  have hil : i < lo := by simpa using hl
  simp only [closedB, List.all_eq_true, List.mem_range] at h
  have h1 := h i hil
  rw [hi] at h1
  simp only [List.all_eq_true, decide_eq_true_eq] at h1
  have := h1 j hj
  rw [doneTo_get ops _ (by omega)]; simp [this]

theorem doneTo_count {ops : Array Oper} {lo n : Nat} (h : lo + n ≤ ops.size) : (((doneTo ops lo).toList.drop lo).take n).count false = n := by
  have : (doneTo ops lo).toList.drop lo = List.replicate (ops.size - lo) false := by
    apply List.ext_getElem?
    intro i
    rw [List.getElem?_drop]
    by_cases hi : lo + i < ops.size
    · have := doneTo_get ops lo hi
      simp only [Array.getElem?_toList] at this ⊢
      rw [this, List.getElem?_replicate, if_pos (by omega)]; simp
    · rw [List.getElem?_eq_none (by simp [doneTo_size]; omega), List.getElem?_eq_none (by simp; omega)]
  rw [this, List.take_replicate, List.count_replicate_self]; omega
theorem fin_mono {K K' : Act → World → Prop} (hk : ∀ a w, K a w → K' a w) : ∀ (os : List Oper) (ss : List Sp) (acc : Act) (w' : World), Fin' K w' os ss acc → Fin' K' w' os ss acc := by
  intro os
  induction os with
  | nil => intro ss acc w' hh; cases ss <;> exact hk _ _ hh
  | cons o os ih =>
    intro ss acc w' hh
    cases ss with
    | nil => exact hk _ _ hh
    | cons s ss => cases s <;> simp only [Fin'] at hh ⊢ <;> first | exact ih _ _ _ hh | exact fun v hv => ih _ _ _ (hh v hv)

/-- The region from its operation lo on, all of which only add memory. -/
theorem Ph.rest {P : Program} {ops : Array Oper} {Q : Exit → Act → World → Prop} {a : Act} {w : World} (lo n : Nat) (hc : (decide (lo + n = ops.size) && closedB ops lo && dstsOkL ops lo a.tmps.size) = true)
    (h : LinL P ops a w lo (fun S => ∀ w', Ext w w' → Fin' (Q .normal) w' ((ops.toList.drop lo).take n) S a) n 0 []) : Ph P ops Q lo a w := by
  simp only [Bool.and_eq_true, decide_eq_true_eq] at hc
  obtain ⟨⟨h1, h2⟩, h3⟩ := hc
  obtain ⟨S, hR, H⟩ := hopL_of (by omega) h3 h
  have hfin : ∀ a' w', Q .normal a' w' → Ph P ops Q (lo + n) a' w' := fun a' w' hq => by
    unfold Ph
    rw [h1, Nat.sub_self]
    refine ⟨?_, hq⟩
    simp only [Region.ready, List.filter_eq_nil_iff, List.mem_range]
    intro i hi
    have := doneTo_get ops ops.size hi
    simp [Array.getD_eq_getD_getElem?, this, hi]
  have := wpAny_phase H (fun listed hls _ _ i hi => by obtain ⟨o, ho, _⟩ := (ready_iffL ops hls i).1 hi; have := (Array.getElem?_eq_some_iff.1 ho).1; omega) (fun w' hx => fin_mono hfin _ _ _ _ (hR w' hx)) n (doneTo ops lo) a w (doneTo_size _ _) (doneTo_count (by omega))
    (closed_doneTo h2 (by omega)) (fun i hi => by rw [doneTo_get ops _ (by omega)]; simp [hi]) (fun i hi1 hi2 => by rw [doneTo_get ops _ hi2]; simp; omega) rinvL_start
  unfold Ph
  rw [show ops.size - lo = n + (ops.size - (lo + n)) from by omega]
  exact this

/-- Operation m waits for all of [lo, m), and all behind m wait for it. -/
def gateB (ops : Array Oper) (lo m : Nat) : Bool :=
  decide (lo ≤ m) && decide (m < ops.size) &&
  ((List.range m).all fun j => decide (j < lo) || (List.range (m + 1)).any fun k => decide (j < k) && ((ops[k]?).map fun o => (deps o).contains j).getD false) &&
  ((List.range ops.size).all fun k => decide (k ≤ m) || ((ops[k]?).map fun o => (deps o).any fun d => decide (m ≤ d) && decide (d < k)).getD false)

theorem gate_before {ops : Array Oper} {lo m : Nat} (hg : gateB ops lo m = true) {listed : Array Bool} (hcl : Closed ops listed) {om : Oper} (hm : ops[m]? = some om) (hd : ∀ j ∈ deps om, listed[j]? = some true) : ∀ j, lo ≤ j → j < m → listed[j]? = some true := by
  simp only [gateB, Bool.and_eq_true, decide_eq_true_eq] at hg
  obtain ⟨⟨⟨h1, h2⟩, h3⟩, h4⟩ := hg
  have key : ∀ d j, m - j = d → lo ≤ j → j < m → listed[j]? = some true := by
    intro d
    induction d using Nat.strongRecOn with
    | _ d ih =>
      intro j hdj hlj hjm
      simp only [List.all_eq_true, List.mem_range, Bool.or_eq_true, decide_eq_true_eq, List.any_eq_true, Bool.and_eq_true] at h3
      obtain ⟨k, hk, hjk, hc⟩ := (h3 j hjm).resolve_left (by omega)
      cases hok : ops[k]? with
      | none => rw [hok] at hc; simp at hc
      | some ok =>
        rw [hok] at hc
        have hjd : j ∈ deps ok := by simpa using hc
        by_cases hkm : k = m
        · subst hkm; rw [hok] at hm; cases hm; exact hd j hjd
        · have := ih (m - k) (by omega) k rfl (by omega) (by omega)
          exact hcl k ok hok this j hjd
  exact fun j h5 h6 => key _ j rfl h5 h6
theorem gate_behind {ops : Array Oper} {lo m : Nat} (hg : gateB ops lo m = true) {listed : Array Bool} (hcl : Closed ops listed) : ∀ (k : Nat) (ok : Oper), m < k → ops[k]? = some ok → (∀ j ∈ deps ok, listed[j]? = some true) → listed[m]? = some true := by
  simp only [gateB, Bool.and_eq_true, decide_eq_true_eq] at hg
  obtain ⟨⟨⟨h1, h2⟩, h3⟩, h4⟩ := hg
  intro k
  induction k using Nat.strongRecOn with
  | _ k ih =>
    intro ok hmk hk hd
    have hks := (Array.getElem?_eq_some_iff.1 hk).1
    simp only [List.all_eq_true, List.mem_range, Bool.or_eq_true, decide_eq_true_eq] at h4
    have h5 := (h4 k hks).resolve_left (by omega)
    rw [hk] at h5
    simp only [Option.map_some, Option.getD_some, List.any_eq_true, Bool.and_eq_true, decide_eq_true_eq] at h5
    obtain ⟨d, hdd, hmd, hdk⟩ := h5
    have hdl := hd d hdd
    by_cases he : d = m
    · subst he; exact hdl
    · cases hod : ops[d]? with
      | none =>
        exfalso
        have : d < ops.size := by omega
        rw [Array.getElem?_eq_getElem this] at hod; cases hod
      | some od => exact ih d hdk od (by omega) hod (hcl d od hod hdl)

/-- The region from its operation lo on, up to a gate: then the gate itself, then the rest. -/
theorem Ph.gate {P : Program} {ops : Array Oper} {Q : Exit → Act → World → Prop} {a : Act} {w : World} (lo n : Nat)
    (hc : (gateB ops lo (lo + n) && closedB ops lo && closedB ops (lo + n) && dstsOkL ops lo a.tmps.size && ((ops[lo + n]?).map fun o => (deps o).all fun j => decide (j < lo + n)).getD false) = true)
    (h : LinL P ops a w lo (fun S => ∀ w', Ext w w' → Fin' (wpOp P ops Q (lo + n) (Ph P ops Q (lo + n + 1))) w' ((ops.toList.drop lo).take n) S a) n 0 []) : Ph P ops Q lo a w := by
  simp only [Bool.and_eq_true] at hc
  obtain ⟨⟨⟨⟨h1, h2⟩, h2'⟩, h3⟩, h4⟩ := hc
  have h1' := h1
  simp only [gateB, Bool.and_eq_true, decide_eq_true_eq] at h1'
  have hms : lo + n < ops.size := h1'.1.1.2
  obtain ⟨om, hom⟩ : ∃ o, ops[lo + n]? = some o := ⟨_, Array.getElem?_eq_getElem hms⟩
  rw [hom] at h4
  simp only [Option.map_some, Option.getD_some, List.all_eq_true, decide_eq_true_eq] at h4
  obtain ⟨S, hR, H⟩ := hopL_of (by omega) h3 h
  have hcm := closed_doneTo h2' (by omega)
  have hfin : ∀ a' w', wpOp P ops Q (lo + n) (Ph P ops Q (lo + n + 1)) a' w' → Ph P ops Q (lo + n) a' w' := fun a' w' hq => by
    unfold Ph
    rw [show ops.size - (lo + n) = (ops.size - (lo + n + 1)) + 1 from by omega]
    have hmr : ∀ i, i ∈ Region.ready .any ops (doneTo ops (lo + n)) → i = lo + n := fun i hi => by
      obtain ⟨o, ho, hun, hd⟩ := (ready_iffL ops (doneTo_size _ _) i).1 hi
      have his := (Array.getElem?_eq_some_iff.1 ho).1
      rw [doneTo_get ops _ his] at hun
      have hge : lo + n ≤ i := by simpa using hun
      rcases Nat.lt_or_ge (lo + n) i with hlt | hge'
      · have := gate_behind h1 hcm i o hlt ho hd
        rw [doneTo_get ops _ hms] at this; simp at this
      · omega
    refine ⟨fun hnil => ?_, fun i hi => ?_⟩
    · exfalso
      have : lo + n ∈ Region.ready .any ops (doneTo ops (lo + n)) := (ready_iffL ops (doneTo_size _ _) _).2 ⟨om, hom, by rw [doneTo_get ops _ hms]; simp, fun j hj => by
        have := h4 j hj
        rw [doneTo_get ops _ (by omega)]; simp [this]⟩
      rw [hnil] at this; cases this
    · obtain rfl := hmr i hi
      have he : (doneTo ops (lo + n)).setIfInBounds (lo + n) true = doneTo ops (lo + n + 1) := by
        apply Array.ext_getElem?
        intro i
        by_cases hi : i < ops.size
        · rw [doneTo_get ops _ hi]
          by_cases hin : lo + n = i
          · subst hin
            rw [Array.getElem?_setIfInBounds_self_of_lt (by rw [doneTo_size]; omega)]; simp
          · rw [Array.getElem?_setIfInBounds_ne hin, doneTo_get ops _ hi]; congr 1; simp; omega
        · rw [Array.getElem?_eq_none (by simp [doneTo_size]; omega), Array.getElem?_eq_none (by rw [doneTo_size]; omega)]
      rw [he]
      exact hq
  have := wpAny_phase H (fun listed hls hcl ⟨i0, hi1, hi2, hu⟩ i hi => by
      obtain ⟨o, ho, hun, hd⟩ := (ready_iffL ops hls i).1 hi
      rcases Nat.lt_or_ge i (lo + n) with hlt | hge
      · exact hlt
      · exfalso
        have hdm : ∀ j ∈ deps om, listed[j]? = some true := by
          rcases Nat.lt_or_ge (lo + n) i with hgt | hle
          · exact hcl _ om hom (gate_behind h1 hcl i o hgt ho hd)
          · obtain rfl : i = lo + n := by omega
            rw [ho] at hom; cases hom; exact hd
        have := gate_before h1 hcl hom hdm i0 hi1 hi2
        rw [hu] at this; cases this)
    (fun w' hx => fin_mono hfin _ _ _ _ (hR w' hx)) n (doneTo ops lo) a w (doneTo_size _ _) (doneTo_count (by omega))
    (closed_doneTo h2 (by omega)) (fun i hi => by rw [doneTo_get ops _ (by omega)]; simp [hi]) (fun i hi1 hi2 => by rw [doneTo_get ops _ hi2]; simp; omega) rinvL_start
  unfold Ph
  rw [show ops.size - lo = n + (ops.size - (lo + n)) from by omega]
  exact this

theorem wp_region_ph {P : Program} {id : Nat} {ops : Array Oper} {a : Act} {w : World} {Q : Exit → Act → World → Prop} (hm : P.follows .mixedOrders = true) (h : Ph P ops Q 0 a w.drew) : (Code.region id ops true).wp P Q a w := by
  have he : doneTo ops 0 = Array.replicate ops.size false := by
    apply Array.ext_getElem?
    intro i
    by_cases hi : i < ops.size
    · rw [doneTo_get ops _ hi]; simp [hi]
    · rw [Array.getElem?_eq_none (by rw [doneTo_size]; omega), Array.getElem?_eq_none (by simp; omega)]
  unfold Ph at h
  rw [he] at h
  exact wp_region_any hm h

/-- The same, the world behind the draw under a new name. -/
theorem wp_region_phx {P : Program} {id : Nat} {ops : Array Oper} {a : Act} {w : World} {Q : Exit → Act → World → Prop} (hm : P.follows .mixedOrders = true) (h : ∀ w1, Ext w w1 → Ph P ops Q 0 a w1) : (Code.region id ops true).wp P Q a w :=
  wp_region_ph hm (h _ (Ext.refl w).drew)

/-- The gate's own step, in the form of a walk. -/
theorem wpOp_of_list {P : Program} {ops : Array Oper} {Q : Exit → Act → World → Prop} {K : Act → World → Prop} {i : Nat} {o : Oper} {a : Act} {w : World} (ho : ops[i]? = some o) (h : wpList P ops (Exit.then K Q) [o] a w) : wpOp P ops Q i K a w := by
  unfold wpOp
  unfold wpList at h
  simp only [ho]
  split
  · rename_i hw
    rw [if_pos hw] at h
    rcases h with h | ⟨h1, h2⟩
    · refine .inl ?_
      unfold Oper.wp at h ⊢
      generalize (execOp a.eval o).run P w = r at *
      have hlo : LetsOut (Exit.then K Q) → LetsOut Q := fun ⟨a, w, hq⟩ => ⟨a, w, hq⟩
      cases r with
      | ok n w' =>
        cases n <;> simp only [Oper.upon] at h ⊢
        case value u => exact h
        case skip => exact h
        case defer d => exact h
        case enter f args =>
          refine Calls.mono h fun e w'' he => ?_
          cases e with
          | returned u => exact he
          | panicked c => exact he
          | outgrown => exact hlo he
        case row row args => exact Rows.mono h fun u w'' he => he
      | halt x w' => cases x <;> simp only [Oper.upon] at h ⊢; exact h
    · exact .inr ⟨h1, h2.elim fun a hq => hq.elim fun w hq => ⟨a, w, hq⟩⟩
  · rename_i hw
    rw [if_neg hw] at h
    exact h
/-- A gate that is a call of a Go function. -/
theorem wpOp_call {P : Program} {ops : Array Oper} {Q : Exit → Act → World → Prop} {K : Act → World → Prop} {i : Nat} {o : Oper} {a : Act} {w : World} (f : FuncId) (args : Array Value) {xs : Array Operand} {tys : Array TypeId} (d : Tmp) (ho : ops[i]? = some o) (hgd : o.guard = none) (hd : o.dst = some d)
    (hop : o.op = .call { callee := .value (.func f), args := xs, argTypes := tys }) (hc : ∀ (ys : Array Value) (w : World), (callFunc f ys).run P w = .ok (.enter f ys) w) (ha : xs.map a.eval = args)
    (h : Calls P f args w fun e w' => ∃ v, e = .returned v ∧ K (a.put (some d) v) w') : wpOp P ops Q i K a w := by
  rw [← hd] at h
  unfold wpOp
  simp only [ho]
  rw [if_pos (wanted_none hgd _)]
  refine .inl ?_
  unfold Oper.wp
  have hr : (execOp a.eval o).run P w = .ok (.enter f args) w := by
    obtain ⟨dst, op, type, pos, after, guard⟩ := o
    simp only at hop
    subst hop
    have he : execOp a.eval { dst, op := .call { callee := .value (.func f), args := xs, argTypes := tys }, type, pos, after, guard } = callFunc f (#[] ++ xs.map a.eval ++ #[]) := rfl
    rw [he, Array.empty_append, Array.append_empty, ha]; exact hc _ _
  rw [hr]
  refine Calls.mono h fun e w'' he => ?_
  obtain ⟨v, rfl, hk⟩ := he
  exact hk
/-- An operation whose guard, told before the phase, says yes. -/
theorem op_yes0 {P : Program} {ops : Array Oper} {a : Act} {w : World} {r : List Sp} {o : Oper} {s : Sp} {reads : List (Tmp × Option Nat)} (g t : Nat) (b : Bool) (hgd : o.guard = some (g, b)) (hd : (ops[g]?).bind (·.dst) = some t) (hb : a.tmps.getD t undef = .bool b)
    (h : opOk P ops a w r { o with guard := none } reads s) : opOk P ops a w r o (reads ++ [(t, none)]) s := by
  intro σ w' hx hg
  have h1 := h σ w' hx (given_left _ _ hg)
  have h2 := (given_right _ _ hg).1
  rw [hb] at h2
  have hy := yielded_of (ops := ops) hd h2
  rw [if_pos (wanted_none rfl _)] at h1
  rw [if_pos (by simp [Region.wanted, hgd, hy])]
  exact h1
theorem op_no0 {P : Program} {ops : Array Oper} {a : Act} {w : World} {r : List Sp} {o : Oper} {reads : List (Tmp × Option Nat)} (g t : Nat) (b : Bool) (hgd : o.guard = some (g, b)) (hd : (ops[g]?).bind (·.dst) = some t) (hb : a.tmps.getD t undef = .bool (!b)) : opOk P ops a w r o (reads ++ [(t, none)]) (.val undef) := by
  intro σ w' hx hg
  have h2 := (given_right _ _ hg).1
  rw [hb] at h2
  have hy := yielded_of (ops := ops) hd h2
  rw [if_neg (by simp [Region.wanted, hgd, hy])]
  rfl
end Go.Proofs.Ytgbhbifdfcfamaa
namespace Go.Proofs.Ytgbhbifdfcfamaa
set_option maxRecDepth 100000
open Go.RowKit

/-- An empty slice without capacity. -/
def Sp.empty : Sp := .any (fun v _ => ∃ ad : Addr, v = .slice (some ad) 0 0) fun _ _ _ h _ => h
section
variable {P : Program} {w : World} {t e : TypeId} {z : Value} {bytes : Nat} {xs : List Value} {v : Value}
theorem run_app_empty (E : El P t e z bytes) (ty : TypeId) (ad : Addr) {s : Value} {ys : List Value} (hs : Sl w s ys) (h1 : ∀ u ∈ ys, u.oneCell' = true) (hb : ys.length * bytes ≤ 140737488355328) :
    ∃ v' w', (Builtin.append_ #[t, t] ty #[.slice (some ad) 0 0, s]).run P w = .ok v' w' ∧ Ext w w' ∧ Sl w' v' ys ∧ (ys ≠ [] → ∀ k, v'.ownBlock = some k → w.heap.size ≤ k) := by
  obtain ⟨i, hi, hz, hsz, hby⟩ := E.info
  obtain ⟨A, c, rfl, hc1, hc2, hc⟩ := hs
  have hm : ys.length ≤ maxLen := by
    have := Nat.le_mul_of_pos_right ys.length E.pos
    unfold maxLen; omega
  by_cases h0 : ys.length = 0
  · have hy : ys = [] := List.eq_nil_of_length_eq_zero h0
    subst hy
    refine ⟨.slice (some ad) 0 0, w, ?_, Ext.refl w, ⟨some ad, 0, rfl, by simp, by simp [maxLen], fun k u hk => by simp at hk⟩, fun h => absurd rfl h⟩
    cases A with
    | none => simp [Builtin.append_, run_underlying E.hu, sizeOf, typeInfo, hi, Builtin.lenOf, Builtin.firstCells, storeCells]
    | some b => simp [Builtin.append_, run_underlying E.hu, sizeOf, typeInfo, hi, Builtin.lenOf, Builtin.firstCells, storeCells, loadCells, loadCellsFrom]
  · obtain ⟨b, rfl, hcells⟩ : ∃ b, A = some b ∧ ∀ j u, ys[j]? = some u → w.cell? (b.add j) = some u := by
      obtain ⟨b, hA, _⟩ := hc 0 ys[0] (List.getElem?_eq_getElem (by omega))
      exact ⟨b, hA, fun j u hj => by obtain ⟨b', hA', hh⟩ := hc j u hj; rw [hA] at hA'; cases hA'; exact hh⟩
    have hm2 : ys.length ≤ 9223372036854775807 := by unfold maxLen at hm; omega
    have hr := run_append_grow (P := P) w t ty e i z E.hu hi hz ad 0 0 [] (by simp) (fun j u hj => by simp at hj) b ys.length c ys (by rw [hsz, Nat.mul_one]) hcells (by omega) (by omega) (growslice_fits (by omega) (by rw [hby]; simpa using hb))
    simp only [Nat.zero_add] at hr
    refine ⟨_, _, hr, ((Ext.refl w).drew).alloc _, ?_, fun _ k hk => ?_⟩
    · have hge := grownCap_ge w ys.length 0 e
      have hcm := grownCap_le_maxLen w ys.length 0 e hm
      refine ⟨some ⟨w.heap.size, 0, none⟩, _, rfl, hge, hcm, fun k u hk => ⟨_, rfl, ?_⟩⟩
      rw [add_zero_off]
      have hnew : (w.drew.alloc (.cells (([] : List Value).toArray ++ ys.toArray ++ Builtin.zeroCells z.cells (grownCap w ys.length 0 e - ys.length)) e)).heap[w.heap.size]? = some (.cells (([] : List Value).toArray ++ ys.toArray ++ Builtin.zeroCells z.cells (grownCap w ys.length 0 e - ys.length)) e) := heap_alloc_new w.drew _
      rw [cell_of_row _ w.heap.size k _ e (0, 0) hnew]
      have hkl : k < ys.length := (List.getElem?_eq_some_iff.1 hk).1
      have hk' : ys[k]? = some u := hk
      simp only [Array.getElem?_append, List.size_toArray]
      simp [hkl]
      simpa [hkl] using hk'
    · cases hk; exact Nat.le_refl _
end
section
variable {P : Program} {ops : Array Oper} {a : Act} {w : World} {r : List Sp} {o : Oper} {reads : List (Tmp × Option Nat)} {t e : TypeId} {z : Value} {bytes : Nat}
theorem op_build (E : El P t e z bytes) (us : List Value) (n : Nat) (ps : Array (Nat × Operand)) (hgd : o.guard = none) (ho : o.op = .buildSlice t n ps) (hn : n = us.length) (hs : n ≤ 1000000) (hone : ∀ u ∈ us, u.cells = #[u])
    (h : ∀ (σ : Act) (w' : World), Ext w w' → Given a r σ w' reads → (ps.toList.map fun x => (x.1, σ.eval x.2)) = ((us.zipIdx 0).map fun p => (p.2, p.1))) : opOk P ops a w r o reads (.sl us) := by
  intro σ w' hx hg
  rw [if_pos (wanted_none hgd _)]
  have hps := h σ w' hx hg
  have hr := run_buildSlice (P := P) E us (ps.map fun x => (x.1, σ.eval x.2)) (by rw [Array.toList_map]; exact hps) hone n hn hs w'
  unfold Oper.wp execOp
  simp only [ho]
  rw [show (Instr.buildSlice t n (ps.map fun (i, x) => (i, σ.eval x))) = Instr.buildSlice t n (ps.map fun x => (x.1, σ.eval x.2)) from rfl]
  simp only [Sem.run_bind, hr, Result.andThen_ok]
  subst hn
  exact ⟨_, rfl, (Ext.refl _).alloc _, Sl.of_own (own_new (w := w') (e := e) us hs)⟩
theorem op_empty (E : El P t e z bytes) (hgd : o.guard = none) (ho : o.op = .buildSlice t 0 #[]) : opOk P ops a w r o [] Sp.empty := by
  intro σ w' hx hg
  rw [if_pos (wanted_none hgd _)]
  have hr := run_buildSlice (P := P) E [] #[] rfl (by simp) 0 rfl (by omega) w'
  unfold Oper.wp execOp
  simp only [ho]
  simp only [List.map_toArray, List.map_nil, Sem.run_bind, hr, Result.andThen_ok]
  exact ⟨_, rfl, (Ext.refl _).alloc _, _, rfl⟩
/-- append([]T{}, s...): reads the empty slice at position k, s read as ys. -/
theorem op_clone (E : El P t e z bytes) (x y : Tmp) (k : Nat) (more : List (Tmp × Option Nat)) {ys : List Value} (h1 : ∀ u ∈ ys, u.oneCell' = true) (hb : ys.length * bytes ≤ 140737488355328) (hgd : o.guard = none)
    (ho : o.op = .call { callee := .builtin .append, args := #[.tmp x, .tmp y], argTypes := #[t, t] }) (hk : r.getD k (.val undef) = Sp.empty)
    (h : ∀ (σ : Act) (w' : World), Ext w w' → Given a r σ w' ((x, some k) :: more) → Sl w' (σ.tmps.getD y undef) ys) : opOk P ops a w r o ((x, some k) :: more) (.sl ys) := by
  intro σ w' hx hg
  rw [if_pos (wanted_none hgd _)]
  have hs := h σ w' hx hg
  have he : (Sp.empty).p (σ.tmps.getD x undef) w' := by rw [← hk]; exact hg.1
  obtain ⟨ad, he⟩ := he
  obtain ⟨v', w'', hr, hx', hsl, _⟩ := run_app_empty E o.type ad hs h1 hb
  unfold Oper.wp execOp
  simp only [ho, resolve, invoke, builtin, Sem.run_bind, Sem.run_pure, Result.andThen_ok, List.map_toArray, List.map_cons, List.map_nil, Act.eval, he, hr]
  exact ⟨v', rfl, hx', hsl⟩
end
end Go.Proofs.Ytgbhbifdfcfamaa
namespace Go.Proofs.Ytgbhbifdfcfamaa
set_option maxRecDepth 100000
open Go.RowKit

/-- A pointer to a block, from lo on, that holds just these cells. -/
def Sp.fs (lo : Nat) (zs : List Value) : Sp := .any (fun v w => ∃ g, v = .pointer (some ⟨g, 0, none⟩) ∧ lo ≤ g ∧ Fs w g zs) fun _ _ _ ⟨g, h1, h2, h3⟩ he => ⟨g, h1, h2, h3.ext he⟩
section
variable {P : Program} {ops : Array Oper} {a : Act} {w : World} {r : List Sp} {o : Oper} {t : TypeId} {n lo : Nat} {zs : List Value}
theorem op_alloc (E : St P t n zs) (hle : lo ≤ w.heap.size) (hgd : o.guard = none) (ho : o.op = .alloc t) : opOk P ops a w r o [] (Sp.fs lo zs) := by
  intro σ w' hx hg
  rw [if_pos (wanted_none hgd _)]
  obtain ⟨i0, hi, hz, hs⟩ := E.info
  have hf : Fs (w'.alloc (.cells zs.toArray t)) w'.heap.size zs := by simpa using Fs.alloc w' zs.toArray t
  unfold Oper.wp execOp
  simp [ho, Instr.alloc, newVar, newRow, zeroValue, typeInfo, hi, hz, Value.cells]
  exact ⟨_, rfl, (Ext.refl _).alloc _, _, rfl, Nat.le_trans hle hx.size, hf⟩
end
/-- The address of a record that reads as d; the record itself. -/
def Sp.recp {α : Type} (n : Nat) (R : World → List Value → α → Prop) (hR : Stays R) (d : α) : Sp := .any (fun v w => ∃ p row, v = .pointer (some p) ∧ RowAt w p row ∧ row.length = n ∧ R w row d) fun _ _ _ ⟨p, row, h1, h2, h3, h4⟩ he => ⟨p, row, h1, h2.ext he, h3, hR _ _ _ _ h4 he⟩
def Sp.recv {α : Type} (R : World → List Value → α → Prop) (hR : Stays R) (d : α) : Sp := .any (fun v w => ∃ row, v = .agg row.toArray ∧ R w row d) fun _ _ _ h he => by obtain ⟨row, h1, h2⟩ := h; exact ⟨row, h1, hR _ _ _ _ h2 he⟩
/-- A slice of records that reads as l. -/
def Sp.recl {α : Type} (n : Nat) (R : World → List Value → α → Prop) (hR : Stays R) (l : List α) : Sp := .any (fun v w => Recs n R w v l) fun _ _ _ h he => h.ext hR he
section
variable {P : Program} {o : Oper} {ρ : Operand → Value} {w : World} {t e : TypeId} {α : Type} {n : Nat} {R : World → List Value → α → Prop} {l : List α} {v : Value} {d : α} {zs : List Value}
theorem rridx (hR : Stays R) (E : ElS P t e n) (x y : Operand) (i : Nat) (ho : o.op = .indexAddr t x y) (hv : ρ x = v) (hy : ρ y = .int .i64 i) (h : Recs n R w v l) (hd : l[i]? = some d) : ∃ v', Runs P o ρ w v' ∧ (Sp.recp n R hR d).p v' w := by
  obtain ⟨hi, rfl⟩ := List.getElem?_eq_some_iff.1 hd
  obtain ⟨p, row, h1, h2, h3, h4⟩ := runs_ridx E x y i ho hv hy h hi
  exact ⟨_, h1, p, row, rfl, h2, h3, h4⟩
theorem rrload (hR : Stays R) (E : St P e n zs) (x : Operand) (ho : o.op = .load e x) (h : (Sp.recp n R hR d).p (ρ x) w) : ∃ v', Runs P o ρ w v' ∧ (Sp.recv R hR d).p v' w := by
  obtain ⟨p, row, h1, h2, h3, h4⟩ := h
  exact ⟨_, runs_pload E x ho h1 h2 h3, row, rfl, h4⟩
end
end Go.Proofs.Ytgbhbifdfcfamaa
namespace Go.Proofs.Ytgbhbifdfcfamaa
set_option maxRecDepth 100000
open Go.RowKit

theorem strN_size (l : List Nat) : (strN l).size = l.length := by simp [strN, ByteArray.size]
/-- Two strings of bytes, one behind the other. -/
theorem runs_cat {o : Oper} {ρ : Operand → Value} {w : World} {l m : List Nat} (x y : Operand) (ho : o.op = .binOp .add 9 x y 9) (hx : ρ x = .string (strN l)) (hy : ρ y = .string (strN m)) (hb : l.length + m.length ≤ 140737488355328) :
    Runs Try.prog o ρ w (.string (strN (l ++ m))) := by
  unfold Runs execOp
  have h1 : (strN l).size + (strN m).size ≤ 9223372036854775807 := by rw [strN_size, strN_size]; omega
  have hs := run_string_add_sum (P := Try.prog) w (strN l) (strN m) h1
  simp [ho, hx, hy, eqGuard, binOp, hs, strN_append]
theorem w_cat {ops : Array Oper} {rest : List Oper} {o : Oper} {a : Act} {Q : Exit → Act → World → Prop} {w : World} {l m : List Nat} (x y : Operand) (hgd : o.guard = none) (ho : o.op = .binOp .add 9 x y 9) (hx : a.eval x = .string (strN l)) (hy : a.eval y = .string (strN m)) (hb : l.length + m.length ≤ 140737488355328)
    (k : wpList Try.prog ops Q rest (a.put o.dst (.string (strN (l ++ m)))) w) : wpList Try.prog ops Q (o :: rest) a w := wpList_runs hgd (runs_cat x y ho hx hy hb) k
end Go.Proofs.Ytgbhbifdfcfamaa
namespace Go.Proofs.Ytgbhbifdfcfamaa
set_option maxRecDepth 100000
open Go.RowKit

/-- A slice of just these records. -/
def Sp.sls (n : Nat) (rows : List (List Value)) : Sp := .any (fun v w => SlS w v n rows) fun _ _ _ h he => h.ext he
section
variable {P : Program} {ops : Array Oper} {a : Act} {w : World} {r : List Sp} {o : Oper} {reads : List (Tmp × Option Nat)} {t e : TypeId} {n bytes : Nat} {z : Value}
theorem op_nbuild (E : ElN P t e n bytes z) (rows : List (List Value)) (m : Nat) (ps : Array (Nat × Operand)) (hgd : o.guard = none) (ho : o.op = .buildSlice t m ps) (hn : m = rows.length) (hs : m * n ≤ 1000000) (hone : ∀ r ∈ rows, r.length = n)
    (h : ∀ (σ : Act) (w' : World), Ext w w' → Given a r σ w' reads → (ps.toList.map fun x => (x.1, σ.eval x.2)) = ((rows.zipIdx 0).map fun p => (p.2, .agg p.1.toArray))) : opOk P ops a w r o reads (Sp.sls n rows) := by
  intro σ w' hx hg
  rw [if_pos (wanted_none hgd _)]
  have hps := h σ w' hx hg
  have hr := run_nbuild (P := P) E rows (ps.map fun x => (x.1, σ.eval x.2)) (by rw [Array.toList_map]; exact hps) hone m hn hs w'
  have hfl := flat_len hone
  have hml : m ≤ m * n := Nat.le_mul_of_pos_right _ E.pos
  have hrow : RowN (fun _ => True) (w'.alloc (.cells rows.flatten.toArray e)) e n (.slice (some ⟨w'.heap.size, 0, none⟩) m m) rows := ⟨⟨hfl, .inr ⟨w'.heap.size, m, rows.flatten.toArray, by rw [hn], Nat.zero_le _, heap_alloc_new w' _, by omega, by unfold maxLen; omega, by rw [hn]; simpa using hfl, by rw [← hfl]; exact List.take_length⟩⟩, hone, fun _ _ => trivial⟩
  unfold Oper.wp execOp
  simp only [ho]
  rw [show (Instr.buildSlice t m (ps.map fun (i, x) => (i, σ.eval x))) = Instr.buildSlice t m (ps.map fun x => (x.1, σ.eval x.2)) from rfl]
  simp only [Sem.run_bind, hr, Result.andThen_ok]
  exact ⟨_, rfl, (Ext.refl _).alloc _, hrow.slS⟩
end
end Go.Proofs.Ytgbhbifdfcfamaa
namespace Go.Proofs.Ytgbhbifdfcfamaa
set_option maxRecDepth 100000
open Go.RowKit

theorem runs_cutk_own {P : Program} {o : Oper} {ρ : Operand → Value} {w : World} {v : Value} {xs : List Value} {t e : TypeId} {z : Value} {bytes : Nat} (E : El P t e z bytes) (x : Operand) (lo hi : Option Operand)
    (ho : o.op = .slice t x lo hi none) (hv : ρ x = v) (h : Sl w v xs) (i j : Nat) (kl kh : IntKind)
    (hlo : (∃ y, lo = some y ∧ ρ y = .int kl i) ∨ lo = none ∧ i = 0) (hhi : (∃ y, hi = some y ∧ ρ y = .int kh j) ∨ hi = none ∧ j = xs.length) (hij : i ≤ j) (hj : j ≤ xs.length) :
    ∃ v', Runs P o ρ w v' ∧ Sl w v' ((xs.take j).drop i) ∧ ∀ k, v'.ownBlock = some k → v.ownBlock = some k := by
  obtain ⟨A, c, rfl, h1, h2, h3⟩ := h
  obtain ⟨i0, hi0, _, hsz, _⟩ := E.info
  have hu := E.hu
  have key : Sl w (.slice (if c = i then A else A.map (·.add (i * 1))) (j - i) (c - i)) ((xs.take j).drop i) := by
    have hl : ((xs.take j).drop i).length = j - i := by simp; omega
    refine ⟨_, c - i, by rw [hl], by rw [hl]; omega, by omega, fun k u hk => ?_⟩
    rw [List.getElem?_drop, List.getElem?_take] at hk
    split at hk
    · obtain ⟨ad, rfl, hc⟩ := h3 _ u hk
      have hlt : i + k < xs.length := (List.getElem?_eq_some_iff.1 hk).1
      refine ⟨ad.add i, by rw [if_neg (by omega)]; simp, by rw [add_add']; exact hc⟩
    · cases hk
  refine ⟨_, ?_, key, fun k hk => ?_⟩
  rotate_left
  · by_cases hci : c = i
    · rw [if_pos hci] at hk; cases A <;> exact hk
    · rw [if_neg hci] at hk
      cases A with
      | none => exact hk
      | some ad =>
        have : (Option.map (fun x : Addr => x.add (i * 1)) (some ad)) = some (ad.add (i * 1)) := rfl
        rw [this] at hk
        have h4 : some (ad.add (i * 1)).block = some k := hk
        rw [blk_add] at h4; exact h4
  unfold Runs execOp
  have b1 : ∀ (kd : IntKind) (y : Nat) (code : BoundsCode) (n : Nat), n ≤ y → (Instr.sliceBound (.int kd (n : Int)) y code).run P w = .ok n w := fun kd y code n hn => by
    simp [Instr.sliceBound, go_sem]; omega
  rcases hlo with ⟨y, rfl, hy⟩ | ⟨rfl, rfl⟩ <;> rcases hhi with ⟨y', rfl, hy'⟩ | ⟨rfl, rfl⟩
  · simp [ho, hv, hy, hy', Instr.sliceAt, Instr.slice, run_underlying hu, Instr.sliceBounds, sizeOf, typeInfo, hi0, hsz, b1 kh c .sliceAcap j (by omega), b1 kl j .sliceB i hij]
  · simp [ho, hv, hy, Instr.sliceAt, Instr.slice, run_underlying hu, Instr.sliceBounds, sizeOf, typeInfo, hi0, hsz, b1 kl xs.length .sliceB i hij]
  · simp [ho, hv, hy', Instr.sliceAt, Instr.slice, run_underlying hu, Instr.sliceBounds, sizeOf, typeInfo, hi0, b1 kh c .sliceAcap j (by omega)]
  · simp [ho, hv, Instr.sliceAt, Instr.slice, run_underlying hu, Instr.sliceBounds, sizeOf, typeInfo, hi0]
theorem runs_cutk {P : Program} {o : Oper} {ρ : Operand → Value} {w : World} {v : Value} {xs : List Value} {t e : TypeId} {z : Value} {bytes : Nat} (E : El P t e z bytes) (x : Operand) (lo hi : Option Operand)
    (ho : o.op = .slice t x lo hi none) (hv : ρ x = v) (h : Sl w v xs) (i j : Nat) (kl kh : IntKind)
    (hlo : (∃ y, lo = some y ∧ ρ y = .int kl i) ∨ lo = none ∧ i = 0) (hhi : (∃ y, hi = some y ∧ ρ y = .int kh j) ∨ hi = none ∧ j = xs.length) (hij : i ≤ j) (hj : j ≤ xs.length) :
    ∃ v', Runs P o ρ w v' ∧ Sl w v' ((xs.take j).drop i) := by
  obtain ⟨v', h1, h2, _⟩ := runs_cutk_own E x lo hi ho hv h i j kl kh hlo hhi hij hj
  exact ⟨v', h1, h2⟩
theorem rcutk {o : Oper} {ρ : Operand → Value} {w : World} {v : Value} {l : List Nat} (kl kh : IntKind) (x : Operand) {lo hi : Option Operand} (ho : o.op = .slice 33 x lo hi none) (hv : ρ x = v) (h : Byt w v l) (i j : Nat)
    (hlo : (∃ y, lo = some y ∧ ρ y = .int kl i) ∨ lo = none ∧ i = 0) (hhi : (∃ y, hi = some y ∧ ρ y = .int kh j) ∨ hi = none ∧ j = l.length) (hij : i ≤ j) (hj : j ≤ l.length) {L : List Nat} (hL : (l.take j).drop i = L) :
    ∃ v', Runs Try.prog o ρ w v' ∧ Sp.p (.sl (u8s L)) v' w := by
  subst hL
  obtain ⟨v', h1, h2⟩ := runs_cutk Try.elB x lo hi ho hv h i j kl kh hlo (hhi.imp id fun e => ⟨e.1, by rw [u8s_length]; exact e.2⟩) hij (by rw [u8s_length]; exact hj)
  refine ⟨v', h1, ?_⟩
  show Sl w v' _
  rw [← u8s_drop, ← u8s_take]; exact h2
theorem rcutkN {o : Oper} {ρ : Operand → Value} {w : World} {v : Value} {l : List Nat} {lw : Nat} (kl kh : IntKind) (x : Operand) {lo hi : Option Operand} (ho : o.op = .slice 33 x lo hi none) (hv : ρ x = v) (h : Nb lw w v l) (i j : Nat)
    (hlo : (∃ y, lo = some y ∧ ρ y = .int kl i) ∨ lo = none ∧ i = 0) (hhi : (∃ y, hi = some y ∧ ρ y = .int kh j) ∨ hi = none ∧ j = l.length) (hij : i ≤ j) (hj : j ≤ l.length) {L : List Nat} (hL : (l.take j).drop i = L) :
    ∃ v', Runs Try.prog o ρ w v' ∧ Sp.p (.nb lw L) v' w := by
  subst hL
  obtain ⟨v', h1, h2, h3⟩ := runs_cutk_own Try.elB x lo hi ho hv h.1 i j kl kh hlo (hhi.imp id fun e => ⟨e.1, by rw [u8s_length]; exact e.2⟩) hij (by rw [u8s_length]; exact hj)
  refine ⟨v', h1, ?_, fun k hk => h.2 k (h3 k hk)⟩
  show Sl w v' _
  rw [← u8s_drop, ← u8s_take]; exact h2
end Go.Proofs.Ytgbhbifdfcfamaa
namespace Go.Proofs.Ytgbhbifdfcfamaa
set_option maxRecDepth 100000
open Go.RowKit

theorem bytes_ext {a b : ByteArray} (h : a.toList = b.toList) : a = b := by
  rw [ByteArray.toList_eq, ByteArray.toList_eq] at h
  exact ByteArray.ext (Array.toList_inj.1 h)

theorem strN_ne {l m : List Nat} (hl : ∀ x ∈ l, x < 256) (hm : ∀ x ∈ m, x < 256) (h : l ≠ m) : ¬ strN l = strN m := fun e => h (strN_inj hl hm e)
theorem strN_ne' {l m : List Nat} (hl : ∀ x ∈ l, x < 256) (hm : ∀ x ∈ m, x < 256) (h : l ≠ m) : ¬ (strN l).toList = (strN m).toList := fun e => h (strN_inj hl hm (bytes_ext e))
end Go.Proofs.Ytgbhbifdfcfamaa
