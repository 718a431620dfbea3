/- A region that draws its order, whose first n operations only add memory and whose other operations wait for all of these and come up in one order (an append, a store): once through the first ones, in the order of the text, then the others. -/
import Derived.StillTailTactics
import Derived.Test.YtgbhbifdfcfamaaFA
namespace Go.Proofs.Ytgbhbifdfcfamaa
set_option maxRecDepth 100000
open Go.RowKit

structure HopN (P : Program) (ops : Array Oper) (n : Nat) (S : List Sp) (a : Act) (w : World) : Prop where
  len : S.length = n
  le : n ≤ ops.size
  uniq : dstsOk ops a.tmps.size = true
  op : ∀ i, i < n → ∃ o reads, ops[i]? = some o ∧ readsOk ops i reads = true ∧ opOk P ops a w (S.take i) o reads (S.getD i (.val undef))

section hop
variable {P : Program} {ops : Array Oper} {n : Nat} {S : List Sp} {a : Act} {w : World} {Q : Exit → Act → World → Prop}

theorem HopN.dlt (H : HopN P ops n S a w) : ∀ (i : Nat) (o : Oper), i < n → ops[i]? = some o → ∀ j ∈ deps o, j < i := fun i o hin hi j hj => by
  obtain ⟨o', reads, ho, hr, _⟩ := H.op i hin
  rw [hi] at ho; cases ho
  simp only [readsOk, hi, Bool.and_eq_true, List.all_eq_true] at hr
  simpa using hr.1.2 j hj

theorem HopN.one (H : HopN P ops n S a w) : ∀ (j : Nat) (o : Oper) (t : Tmp), ops[j]? = some o → o.dst = some t → t < a.tmps.size ∧ ∀ (k : Nat) (ok : Oper), k ≠ j → ops[k]? = some ok → ok.dst ≠ some t := fun j o t hj hd => by
  have hjs := (Array.getElem?_eq_some_iff.1 hj).1
  have hu := H.uniq
  simp only [dstsOk, List.all_eq_true, List.mem_range] at hu
  have h1 := hu j hjs
  simp only [hj, Option.bind_some, hd, Bool.and_eq_true, decide_eq_true_eq, List.all_eq_true, List.mem_range] at h1
  refine ⟨h1.1, fun k ok hk hok he => ?_⟩
  have h2 := h1.2 k (Array.getElem?_eq_some_iff.1 hok).1
  simp [hok, he, hk] at h2

/-- All of the first n have come up, none of the others. -/
theorem HopN.final (H : HopN P ops n S a w) {K : Act → World → Prop} {listed : Array Bool} {a' : Act} {w' : World} (hF : Fin' K w' (ops.toList.take n) S a) (hall : ∀ i, i < n → listed[i]? = some true) (htl : ∀ i, n ≤ i → i < ops.size → listed[i]? = some false)
    (hI : RInv ops S a w listed a' w') : K a' w' := by
  have hS := H.len
  have hle := H.le
  have hget : ∀ i, i < n → (ops.toList.take n)[i]? = ops[i]? := fun i hi => by rw [List.getElem?_take_of_lt hi]; simp
  have hget2 : ∀ (i : Nat) (o : Oper), (ops.toList.take n)[i]? = some o → i < n ∧ ops[i]? = some o := fun i o hi => by
    have hin : i < n := by
      have := (List.getElem?_eq_some_iff.1 hi).1
      rw [List.length_take] at this; omega
    exact ⟨hin, by rw [← hget i hin]; exact hi⟩
  have hex : ∀ i, i < S.length → ∃ v, (S.getD i (.val undef)).p v w' ∧ ∀ (o : Oper) (t : Tmp), ops[i]? = some o → o.dst = some t → a'.tmps[t]? = some v := by
    intro i hi
    have hio : i < n := by omega
    obtain ⟨o, _, ho, _⟩ := H.op i hio
    cases hd : o.dst with
    | none =>
      obtain ⟨v, hv⟩ := hI.mute i o ho hd (hall i hio)
      exact ⟨v, hv, fun o' t ho' hd' => by rw [ho] at ho'; cases ho'; rw [hd] at hd'; cases hd'⟩
    | some t =>
      refine ⟨a'.tmps.getD t undef, hI.told i o t ho hd (hall i hio), fun o' t' ho' hd' => ?_⟩
      rw [ho] at ho'; cases ho'; rw [hd] at hd'; cases hd'
      have hlt : t < a'.tmps.size := by rw [hI.size]; exact (H.one i o t ho hd).1
      rw [Array.getD_eq_getD_getElem?, Array.getElem?_eq_getElem hlt]; rfl
  let f : Nat → Value := fun i => if h : i < S.length then (hex i h).choose else undef
  let vs : List Value := (List.range S.length).map f
  have hvs : ∀ i, i < S.length → vs[i]? = some (f i) := fun i hi => by simp [vs, List.getElem?_range hi]
  have hfs : ∀ i (hi : i < S.length), (S.getD i (.val undef)).p (f i) w' ∧ ∀ (o : Oper) (t : Tmp), ops[i]? = some o → o.dst = some t → a'.tmps[t]? = some (f i) := fun i hi => by
    have := (hex i hi).choose_spec
    simp only [f, hi, dif_pos]; exact this
  have hput : a' = puts (ops.toList.take n) vs a := by
    have htm : a'.tmps = (puts (ops.toList.take n) vs a).tmps := by
      apply Array.ext_getElem?
      intro t
      by_cases hw : ∃ (j : Nat) (o : Oper), j < n ∧ ops[j]? = some o ∧ o.dst = some t
      · obtain ⟨j, o, hjn, hj, hd⟩ := hw
        have hjs : j < S.length := by omega
        rw [(hfs j hjs).2 o t hj hd]
        exact (puts_at (ops.toList.take n) vs a j o t (f j) (by rw [hget j hjn]; exact hj) hd (hvs j hjs) (H.one j o t hj hd).1 fun i o' hij hi => (H.one j o t hj hd).2 i o' hij (hget2 i o' hi).2).symm
      · rw [puts_other (ops.toList.take n) vs a t fun i o hi hd => hw ⟨i, o, (hget2 i o hi).1, (hget2 i o hi).2, hd⟩]
        exact hI.kept t fun j o hj hd => by
          by_cases hjn : j < n
          · exact absurd ⟨j, o, hjn, hj, hd⟩ hw
          · exact htl j (by omega) (Array.getElem?_eq_some_iff.1 hj).1
    have hde : a'.defers = (puts (ops.toList.take n) vs a).defers := by rw [puts_defers]; exact hI.defers
    cases a'; cases hp : puts (ops.toList.take n) vs a; simp_all
  rw [hput]
  exact Fin'.use (ops.toList.take n) S vs a (by rw [List.length_take]; simp; omega) (by simp [vs]) (fun i hi => by
    rw [List.getD_eq_getElem?_getD (l := vs), hvs i hi]; exact (hfs i hi).1) hF

/-- One operation that may come up comes up. -/
theorem HopN.step (H : HopN P ops n S a w) {listed : Array Bool} {a' : Act} {w' : World} (hls : listed.size = ops.size) (hcl : Closed ops listed) (hI : RInv ops S a w listed a' w') {i : Nat} {o : Oper} (hin : i < n) (ho : ops[i]? = some o)
    (hun : listed[i]? = some false) (hdeps : ∀ j ∈ deps o, listed[j]? = some true) {K : Act → World → Prop}
    (hK : ∀ a'' w'', Closed ops (listed.setIfInBounds i true) → RInv ops S a w (listed.setIfInBounds i true) a'' w'' → K a'' w'') : wpOp P ops Q i K a' w' := by
  have hdlt := H.dlt
  have huniq := H.one
  have his : i < ops.size := (Array.getElem?_eq_some_iff.1 ho).1
  have hil : i < listed.size := by omega
  have hS := H.len
  obtain ⟨o', reads, ho', hr, hok⟩ := H.op i hin
  rw [ho] at ho'; cases ho'
  simp only [readsOk, ho, Bool.and_eq_true, List.all_eq_true] at hr
  have hlater : ∀ (k : Nat) (ok : Oper), ops[k]? = some ok → i ∈ deps ok → listed[k]? = some false := fun k ok hk hd => by
    have hks : k < listed.size := by rw [hls]; exact (Array.getElem?_eq_some_iff.1 hk).1
    cases hb : listed[k] with
    | false => rw [Array.getElem?_eq_getElem hks, hb]
    | true =>
      have := hcl k ok hk (by rw [Array.getElem?_eq_getElem hks, hb]) i hd
      rw [hun] at this; cases this
  have hg := given_of hI ho (by omega) hun hdeps hlater (hdlt i o hin ho) reads fun r hrm => by
    have h2 := hr.2 r hrm
    cases hj : r.2 with
    | some j => rw [hj] at h2; simpa using h2
    | none =>
      rw [hj] at h2
      simp only [List.all_eq_true, List.mem_range, Bool.or_eq_true, bne_iff_ne, beq_iff_eq] at h2
      intro k hk
      rcases h2 k hk with (h3 | h3) | h3
      · exact .inl h3
      · exact .inr (.inl h3)
      · exact .inr (.inr h3)
  have hstep := hok a' w' hI.ext hg
  have next : ∀ v w'', Ext w' w'' → (S.getD i (.val undef)).p v w'' → K (a'.put o.dst v) w'' := by
    intro v w'' hx hs
    refine hK _ _ ?_ ?_
    · intro k ok hk hl j hj
      by_cases hki : k = i
      · subst hki; rw [ho] at hk; cases hk
        have hne : k ≠ j := by have := hdlt _ _ hin ho j hj; omega
        rw [Array.getElem?_setIfInBounds_ne hne]; exact hdeps j hj
      · rw [Array.getElem?_setIfInBounds_ne (Ne.symm hki)] at hl
        have := hcl k ok hk hl j hj
        by_cases hij : i = j
        · subst hij; rw [hun] at this; cases this
        · rw [Array.getElem?_setIfInBounds_ne hij]; exact this
    · refine ⟨hI.ext.trans hx, by rw [Act.put_defers']; exact hI.defers, by rw [Act.put_size]; exact hI.size, ?_, ?_, ?_⟩
      · intro j oj t hj hd hl
        by_cases hij : i = j
        · subst hij; rw [ho] at hj; cases hj
          have hlt : t < a'.tmps.size := by rw [hI.size]; exact (huniq _ _ _ ho hd).1
          rw [hd, Array.getD_eq_getD_getElem?, Act.put_get]; simp [hlt]; exact hs
        · rw [Array.getElem?_setIfInBounds_ne hij] at hl
          have h1 := hI.told j oj t hj hd hl
          have hne : o.dst ≠ some t := (huniq j oj t hj hd).2 i o hij ho
          have : (a'.put o.dst v).tmps.getD t undef = a'.tmps.getD t undef := by
            cases hod : o.dst with
            | none => rfl
            | some d => rw [Array.getD_eq_getD_getElem?, Act.put_get, if_neg (by rintro rfl; exact hne hod), ← Array.getD_eq_getD_getElem?]
          rw [this]; exact Sp.ext h1 hx
      · intro t ht
        have hne : o.dst ≠ some t := fun hd => by
          have := ht i o ho hd
          rw [Array.getElem?_setIfInBounds_self_of_lt hil] at this; cases this
        have : (a'.put o.dst v).tmps[t]? = a'.tmps[t]? := by
          cases hod : o.dst with
          | none => rfl
          | some d => rw [Act.put_get, if_neg (by rintro rfl; exact hne hod)]
        rw [this]
        refine hI.kept t fun j oj hj hd => ?_
        have := ht j oj hj hd
        by_cases hij : i = j
        · subst hij; rw [Array.getElem?_setIfInBounds_self_of_lt hil] at this; cases this
        · rwa [Array.getElem?_setIfInBounds_ne hij] at this
      · intro j oj hj hd hl
        by_cases hij : i = j
        · subst hij; exact ⟨v, hs⟩
        · rw [Array.getElem?_setIfInBounds_ne hij] at hl
          obtain ⟨u, hu'⟩ := hI.mute j oj hj hd hl
          exact ⟨u, Sp.ext hu' hx⟩
  unfold wpOp
  simp only [ho]
  split
  · rename_i hw
    rw [if_pos hw] at hstep
    exact .inl (Oper.wp_noQ (fun σ' w'' ⟨v, he, hx, hs⟩ => by subst he; exact next v w'' hx hs) hstep)
  · rename_i hw
    rw [if_neg hw] at hstep
    exact next undef w' (Ext.refl _) hstep

theorem ready_iff (ops : Array Oper) {listed : Array Bool} (hls : listed.size = ops.size) (i : Nat) : i ∈ Region.ready .any ops listed ↔ ∃ o : Oper, ops[i]? = some o ∧ listed[i]? = some false ∧ ∀ j ∈ deps o, listed[j]? = some true := by
  simp only [Region.ready, List.mem_filter, List.mem_range, Bool.and_eq_true, Bool.not_eq_true']
  constructor
  · rintro ⟨hi, h1, h2⟩
    have ho : ops[i]? = some ops[i] := Array.getElem?_eq_getElem hi
    have hlt : i < listed.size := by omega
    refine ⟨_, ho, ?_, fun j hj => ?_⟩
    · rw [Array.getElem?_eq_getElem hlt]; simpa [Array.getD_eq_getD_getElem?, Array.getElem?_eq_getElem hlt] using h1
    · simp only [ho, Option.map_some, Option.getD_some] at h2
      simp only [deps, List.mem_map, List.mem_filter, Array.mem_toList_iff] at hj
      obtain ⟨e, ⟨he, hb⟩, rfl⟩ := hj
      have h3 := Array.all_eq_true_iff_forall_mem.1 h2 e he
      simp only [hb, Bool.not_true, Bool.false_or] at h3
      rw [Array.getD_eq_getD_getElem?] at h3
      cases hx : listed[e.on]? with
      | none => rw [hx] at h3; simp at h3
      | some b => rw [hx] at h3; simp at h3; rw [h3]
  · rintro ⟨o, ho, h1, h2⟩
    refine ⟨(Array.getElem?_eq_some_iff.1 ho).1, by simp [Array.getD_eq_getD_getElem?, h1], ?_⟩
    simp only [ho, Option.map_some, Option.getD_some]
    refine Array.all_eq_true_iff_forall_mem.2 fun e he => ?_
    by_cases hb : Region.binds .any e = true
    · have := h2 e.on (by simp only [deps, List.mem_map, List.mem_filter, Array.mem_toList_iff]; exact ⟨e, ⟨he, hb⟩, rfl⟩)
      simp [hb, Array.getD_eq_getD_getElem?, this]
    · simp [hb]

theorem headInv_of {listed : Array Bool} (hls : listed.size = ops.size) (hcl : Closed ops listed) (htl : ∀ i, n ≤ i → i < ops.size → listed[i]? = some false) : HeadInv .any ops n listed := by
  refine ⟨hls, fun j oj hj hl e he hb => ?_, fun t ht1 ht2 => by rw [Array.getD_eq_getD_getElem?, htl t ht1 ht2]; rfl⟩
  have hl' : listed[j]? = some true := by
    have hlt : j < listed.size := by rw [hls]; exact (Array.getElem?_eq_some_iff.1 hj).1
    rw [Array.getD_eq_getD_getElem?, Array.getElem?_eq_getElem hlt] at hl
    rw [Array.getElem?_eq_getElem hlt]; simpa using hl
  have := hcl j oj hj hl' e.on (by simp only [deps, List.mem_map, List.mem_filter, Array.mem_toList_iff]; exact ⟨e, ⟨he, hb⟩, rfl⟩)
  rw [Array.getD_eq_getD_getElem?, this]; rfl

theorem wpAny_head (H : HopN P ops n S a w) (hn : n < ops.size) (hs : Region.sinkB .any ops n = true) (hc : Region.chainB .any ops n = true)
    (hseq : Region.seqB .any ops (ops.size - n) n ((List.range ops.size).map fun i => decide (i < n)).toArray = true)
    (hQ : ∀ w' , Ext w w' → Fin' (fun a' w'' => wpList P ops Q (ops.toList.drop n) a' w'') w' (ops.toList.take n) S a) :
    ∀ (f : Nat) (listed : Array Bool) (a' : Act) (w' : World), listed.size = ops.size → (listed.toList.take n).count false = f → Closed ops listed → (∀ i, n ≤ i → i < ops.size → listed[i]? = some false) → RInv ops S a w listed a' w' →
      wpAny P .any ops Q (f + (ops.size - n)) listed a' w' := by
  intro f
  have htake : ∀ (listed : Array Bool) (i : Nat), i < n → listed.size = ops.size → (listed.toList.take n)[i]? = listed[i]? := fun listed i hi hls => by rw [List.getElem?_take_of_lt hi]; simp
  induction f with
  | zero =>
    intro listed a' w' hls hcnt hcl htl hI
    have hall : ∀ i, i < n → listed[i]? = some true := fun i hi => by
      have hm : false ∉ listed.toList.take n := List.count_eq_zero.1 hcnt
      have hlt : i < listed.size := by omega
      rw [Array.getElem?_eq_getElem hlt]
      cases hb : listed[i] with
      | true => rfl
      | false => exact absurd (List.mem_of_getElem? (by rw [htake listed i hi hls, Array.getElem?_eq_getElem hlt, hb])) hm
    have hlist : listed = ((List.range ops.size).map fun i => decide (i < n)).toArray := by
      apply Array.ext_getElem?
      intro i
      by_cases hi : i < ops.size
      · have e1 : (((List.range ops.size).map fun i => decide (i < n)).toArray)[i]? = some (decide (i < n)) := by simp [List.getElem?_range hi]
        rw [e1]
        by_cases hin : i < n
        · rw [hall i hin]; simp [hin]
        · rw [htl i (by omega) hi]; simp [hin]
      · rw [Array.getElem?_eq_none (by omega), Array.getElem?_eq_none (by simp; omega)]
    have hK := H.final (hQ w' hI.ext) hall htl hI
    rw [Nat.zero_add]
    have hdl : (ops.toList.drop n).length = ops.size - n := by simp
    have := wpAny_of_seq (md := .any) (ops := ops) (Q' := Q) (ops.toList.drop n) n listed a' w' (fun j => by simp [List.getElem?_drop]) (by rw [hdl, hlist]; exact hseq) hK
    rwa [hdl] at this
  | succ f ih =>
    intro listed a' w' hls hcnt hcl htl hI
    have inv := headInv_of hls hcl htl
    -- one of the first n is left
    obtain ⟨i0, hi0, hu0⟩ : ∃ i, i < n ∧ listed[i]? = some false := by
      have hm : false ∈ listed.toList.take n := List.count_pos_iff.1 (by omega)
      obtain ⟨i, hi, he⟩ := List.getElem_of_mem hm
      have hin : i < n := by rw [List.length_take] at hi; omega
      refine ⟨i, hin, ?_⟩
      rw [← htake listed i hin hls, List.getElem?_eq_getElem hi, he]
    rw [show f + 1 + (ops.size - n) = (f + (ops.size - n)) + 1 from by omega]
    refine ⟨fun hnil => ?_, fun i hi => ?_⟩
    · exfalso
      have hno : ∀ i, i < n → listed[i]? = some true := by
        intro i
        induction i using Nat.strongRecOn with
        | _ i ihi =>
          intro hi
          obtain ⟨o, _, ho, _⟩ := H.op i hi
          have hlt : i < listed.size := by omega
          cases hb : listed[i] with
          | true => rw [Array.getElem?_eq_getElem hlt, hb]
          | false =>
            have : i ∈ Region.ready .any ops listed := (ready_iff ops hls i).2 ⟨o, ho, by rw [Array.getElem?_eq_getElem hlt, hb], fun j hj => ihi j (H.dlt i o hi ho j hj) (by have := H.dlt i o hi ho j hj; omega)⟩
            rw [hnil] at this; cases this
      rw [hno i0 hi0] at hu0; cases hu0
    · have hin : i < n := by
        rcases Nat.lt_or_ge i n with h | h
        · exact h
        · exact absurd hi (tail_waits hs hc hn inv _ i0 rfl hi0 (by rw [Array.getD_eq_getD_getElem?, hu0]; rfl) i h)
      obtain ⟨o, ho, hun, hdeps⟩ := (ready_iff ops hls i).1 hi
      refine H.step hls hcl hI hin ho hun hdeps fun a'' w'' hcl' hI' => ih _ _ _ (by simpa using hls) ?_ hcl' (fun j hj1 hj2 => by rw [Array.getElem?_setIfInBounds_ne (by omega)]; exact htl j hj1 hj2) hI'
      have hlf : (listed.toList.take n)[i]? = some false := by rw [htake listed i hin hls]; exact hun
      have := count_set_true _ _ hlf
      rw [Array.toList_setIfInBounds, List.take_set]
      omega
end hop

theorem hopN_of_lin {P : Program} {ops : Array Oper} {n : Nat} {a : Act} {w : World} {R : List Sp → Prop} (hle : n ≤ ops.size) (hu : dstsOk ops a.tmps.size = true) (h : Lin P ops a w R n []) : ∃ S, R S ∧ HopN P ops n S a w := by
  obtain ⟨S, hR, hl, _, hs⟩ := lin_list _ _ h
  simp only [List.length_nil, Nat.zero_add] at hl hs
  exact ⟨S, hR, hl, hle, hu, fun i hi => hs i (Nat.zero_le _) hi⟩

def tailOk (ops : Array Oper) (n size : Nat) : Bool :=
  dstsOk ops size && decide (n < ops.size) && Region.sinkB .any ops n && Region.chainB .any ops n && Region.seqB .any ops (ops.size - n) n ((List.range ops.size).map fun i => decide (i < n)).toArray

/-- THE REGION WITH A TAIL. -/
theorem wp_region_linT {P : Program} {id : Nat} {ops : Array Oper} {a : Act} {w : World} {Q : Exit → Act → World → Prop} (n : Nat) (hm : P.follows .mixedOrders = true) (hu : tailOk ops n a.tmps.size = true)
    (h : LinR P ops a w.drew (fun S => ∀ w', Ext w.drew w' → Fin' (fun a' w'' => wpList P ops Q (ops.toList.drop n) a' w'') w' (ops.toList.take n) S a) n 0 []) : (Code.region id ops true).wp P Q a w := by
  simp only [tailOk, Bool.and_eq_true, decide_eq_true_eq] at hu
  obtain ⟨⟨⟨⟨h1, h2⟩, h3⟩, h4⟩, h5⟩ := hu
  obtain ⟨S, hR, H⟩ := hopN_of_lin (by omega) h1 (lin_of_r n [] h)
  have := wpAny_head H h2 h3 h4 h5 hR n (Array.replicate ops.size false) a w.drew (by simp) (by
    rw [Array.toList_replicate, List.take_replicate, List.count_replicate_self]; omega) (closed_start ops) (fun i hi1 hi2 => by simp [hi2]) rinv_start
  rw [show n + (ops.size - n) = ops.size from by omega] at this
  exact wp_region_any hm this
end Go.Proofs.Ytgbhbifdfcfamaa
