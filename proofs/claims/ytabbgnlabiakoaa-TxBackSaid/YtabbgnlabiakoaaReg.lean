/- A region that draws its order of evaluation, where every operation only adds memory: it is enough to go through it once, in the order of the text. -/
import Derived.Orders
import Derived.Test.YtabbgnlabiakoaaLib
namespace Go.Proofs.Ytabbgnlabiakoaa
open Go.RowKit

/-- What is known of a value, so that more memory doesn't change it: it is v; or it is a slice that reads as xs; or something else that stays. -/
inductive Sp where
  | val (v : Value)
  | sl (xs : List Value)
  | any (p : Value → World → Prop) (st : ∀ v w w', p v w → Ext w w' → p v w')

def Sp.p : Sp → Value → World → Prop
  | .val c, v, _ => v = c
  | .sl xs, v, w => Sl w v xs
  | .any p _, v, w => p v w

theorem Sp.ext {s : Sp} {v : Value} {w w' : World} (h : s.p v w) (he : Ext w w') : s.p v w' := by
  cases s with
  | val c => exact h
  | sl xs => exact Sl.ext h he
  | any p st => exact st v w w' h he

def deps (o : Oper) : List Nat := (o.after.toList.filter (Region.binds .any)).map (·.on)

/-- What is known of the temporaries that an operation looks at. -/
def Given (a : Act) (done : List Sp) (σ : Act) (w : World) : List (Tmp × Option Nat) → Prop
  | [] => True
  | (t, none) :: r => σ.tmps.getD t undef = a.tmps.getD t undef ∧ Given a done σ w r
  | (t, some j) :: r => (done.getD j (.val undef)).p (σ.tmps.getD t undef) w ∧ Given a done σ w r

def readsOk (ops : Array Oper) (i : Nat) (reads : List (Tmp × Option Nat)) : Bool :=
  match ops[i]? with
  | none => false
  | some o => (o.looksAt ops).all (fun t => reads.any fun r => r.1 == t) && (deps o).all (fun j => decide (j < i)) &&
    reads.all fun r => match r.2 with
      | some j => (deps o).contains j && ((ops[j]?).bind (·.dst) == some r.1)
      | none => (List.range ops.size).all fun k => (((ops[k]?).bind (·.dst)) != some r.1) || k == i || (((ops[k]?).map fun ok => (deps ok).contains i).getD false)

def dstsOk (ops : Array Oper) (n : Nat) : Bool :=
  (List.range ops.size).all fun j => match (ops[j]?).bind (·.dst) with
    | none => true
    | some t => decide (t < n) && (List.range ops.size).all fun k => k == j || ((ops[k]?).bind (·.dst)) != some t

def opOk (P : Program) (ops : Array Oper) (a : Act) (w : World) (done : List Sp) (o : Oper) (reads : List (Tmp × Option Nat)) (s : Sp) : Prop :=
  ∀ (σ : Act) (w' : World), Ext w w' → Given a done σ w' reads →
    if Region.wanted o (yielded ops σ.tmps) = true then o.wp P σ w' (fun σ' w'' => ∃ v, σ' = σ.put o.dst v ∧ Ext w' w'' ∧ s.p v w'') (fun _ _ _ => False) else s.p undef w'

/-- The region in the order of the text. -/
def Lin (P : Program) (ops : Array Oper) (a : Act) (w : World) (R : List Sp → Prop) : Nat → List Sp → Prop
  | 0, done => R done
  | k + 1, done => ∃ o reads s, ops[done.length]? = some o ∧ readsOk ops done.length reads = true ∧ opOk P ops a w done o reads s ∧ Lin P ops a w R k (done ++ [s])

/-- What is left to show behind the region. -/
def Fin' (Q : Act → World → Prop) (w : World) : List Oper → List Sp → Act → Prop
  | o :: os, .val c :: ss, acc => Fin' Q w os ss (acc.put o.dst c)
  | o :: os, .sl xs :: ss, acc => ∀ v, Sl w v xs → Fin' Q w os ss (acc.put o.dst v)
  | o :: os, .any p _ :: ss, acc => ∀ v, p v w → Fin' Q w os ss (acc.put o.dst v)
  | _, _, acc => Q acc w

def puts : List Oper → List Value → Act → Act
  | o :: os, v :: vs, acc => puts os vs (acc.put o.dst v)
  | _, _, acc => acc

theorem Fin'.use {Q : Act → World → Prop} {w : World} : ∀ (os : List Oper) (ss : List Sp) (vs : List Value) (acc : Act), os.length = ss.length → vs.length = ss.length →
    (∀ i, i < ss.length → (ss.getD i (.val undef)).p (vs.getD i undef) w) → Fin' Q w os ss acc → Q (puts os vs acc) w
  | [], [], [], acc, _, _, _, h => h
  | [], [], _ :: _, _, _, h2, _, _ => by simp at h2
  | [], _ :: _, _, _, h1, _, _, _ => by simp at h1
  | _ :: _, [], _, _, h1, _, _, _ => by simp at h1
  | _ :: _, _ :: _, [], _, _, h2, _, _ => by simp at h2
  | o :: os, s :: ss, v :: vs, acc, h1, h2, h3, h => by
    have h0 : s.p v w := by simpa using h3 0 (by simp)
    have hr : ∀ i, i < ss.length → (ss.getD i (.val undef)).p (vs.getD i undef) w := fun i hi => by simpa using h3 (i + 1) (by simpa using hi)
    have h1' : os.length = ss.length := by simpa using h1
    have h2' : vs.length = ss.length := by simpa using h2
    cases s with
    | val c =>
      obtain rfl : v = c := h0
      exact Fin'.use os ss vs _ h1' h2' hr h
    | sl xs => exact Fin'.use os ss vs _ h1' h2' hr (h v h0)
    | any p st => exact Fin'.use os ss vs _ h1' h2' hr (h v h0)

theorem Act.put_size (a : Act) (d : Option Tmp) (v : Value) : (a.put d v).tmps.size = a.tmps.size := by cases d <;> simp [Act.put]
theorem Act.put_defers' (a : Act) (d : Option Tmp) (v : Value) : (a.put d v).defers = a.defers := by cases d <;> rfl
theorem Act.put_get (a : Act) (d t : Tmp) (v : Value) : (a.put (some d) v).tmps[t]? = if d = t then (if t < a.tmps.size then some v else none) else a.tmps[t]? := by
  simp only [Act.put, Array.getElem?_setIfInBounds]
  split <;> simp_all
theorem puts_size : ∀ (os : List Oper) (vs : List Value) (acc : Act), (puts os vs acc).tmps.size = acc.tmps.size
  | [], _, _ => by simp [puts]
  | _ :: _, [], _ => by simp [puts]
  | _ :: os, _ :: vs, acc => by rw [puts, puts_size os vs, Act.put_size]
theorem puts_defers : ∀ (os : List Oper) (vs : List Value) (acc : Act), (puts os vs acc).defers = acc.defers
  | [], _, _ => by simp [puts]
  | _ :: _, [], _ => by simp [puts]
  | _ :: os, _ :: vs, acc => by rw [puts, puts_defers os vs, Act.put_defers']
theorem puts_other : ∀ (os : List Oper) (vs : List Value) (acc : Act) (t : Tmp), (∀ (i : Nat) (o : Oper), os[i]? = some o → o.dst ≠ some t) → (puts os vs acc).tmps[t]? = acc.tmps[t]?
  | [], _, _, _, _ => by simp [puts]
  | _ :: _, [], _, _, _ => by simp [puts]
  | o :: os, v :: vs, acc, t, h => by
    rw [puts, puts_other os vs _ t fun i o hi => h (i + 1) o (by simpa using hi)]
    have h0 := h 0 o rfl
    cases hd : o.dst with
    | none => rfl
    | some d => rw [Act.put_get, if_neg (by rintro rfl; exact h0 hd)]
theorem puts_at : ∀ (os : List Oper) (vs : List Value) (acc : Act) (j : Nat) (o : Oper) (t : Tmp) (v : Value), os[j]? = some o → o.dst = some t → vs[j]? = some v → t < acc.tmps.size →
    (∀ (i : Nat) (o : Oper), i ≠ j → os[i]? = some o → o.dst ≠ some t) → (puts os vs acc).tmps[t]? = some v
  | [], _, _, _, _, _, _, h, _, _, _, _ => by simp at h
  | _ :: _, [], _, _, _, _, _, _, _, h, _, _ => by simp at h
  | o' :: os, v' :: vs, acc, 0, o, t, v, ho, hd, hv, ht, hne => by
    obtain rfl : o' = o := by simpa using ho
    obtain rfl : v' = v := by simpa using hv
    rw [puts, puts_other os vs _ t fun i o hi => hne (i + 1) o (by omega) (by simpa using hi), hd, Act.put_get]
    simp [ht]
  | o' :: os, v' :: vs, acc, j + 1, o, t, v, ho, hd, hv, ht, hne => by
    rw [puts]
    exact puts_at os vs _ j o t v (by simpa using ho) hd (by simpa using hv) (by rw [Act.put_size]; exact ht) fun i o hij hi => hne (i + 1) o (by omega) (by simpa using hi)

theorem Oper.wp_noQ {P : Program} {o : Oper} {a : Act} {w : World} {K K' : Act → World → Prop} {Q : Exit → Act → World → Prop} (hK : ∀ a w, K a w → K' a w) (h : o.wp P a w K (fun _ _ _ => False)) : o.wp P a w K' Q := by
  unfold Oper.wp at *
  generalize (execOp a.eval o).run P w = r at *
  cases r with
  | ok n w' =>
    cases n <;> simp only [Oper.upon] at h ⊢
    case value u => exact hK _ _ h
    case skip => exact hK _ _ h
    case defer d => exact hK _ _ h
    case enter f args =>
      refine Calls.mono h fun e w'' he => ?_
      cases e with
      | returned u => exact hK _ _ he
      | panicked c => exact he.elim
      | outgrown => obtain ⟨_, _, h⟩ := he; exact h.elim
    case row row args => exact Rows.mono h fun u w'' he => hK _ _ he
  | halt x w' =>
    cases x <;> simp only [Oper.upon] at h ⊢

structure RInv (ops : Array Oper) (S : List Sp) (a : Act) (w : World) (listed : Array Bool) (a' : Act) (w' : World) : Prop where
  ext : Ext w w'
  defers : a'.defers = a.defers
  size : a'.tmps.size = a.tmps.size
  told : ∀ (j : Nat) (o : Oper) (t : Tmp), ops[j]? = some o → o.dst = some t → listed[j]? = some true → (S.getD j (.val undef)).p (a'.tmps.getD t undef) w'
  kept : ∀ t : Tmp, (∀ (j : Nat) (o : Oper), ops[j]? = some o → o.dst = some t → listed[j]? = some false) → a'.tmps[t]? = a.tmps[t]?
  mute : ∀ (j : Nat) (o : Oper), ops[j]? = some o → o.dst = none → listed[j]? = some true → ∃ v, (S.getD j (.val undef)).p v w'

theorem lin_list {P : Program} {ops : Array Oper} {a : Act} {w : World} {R : List Sp → Prop} : ∀ (k : Nat) (done : List Sp), Lin P ops a w R k done →
    ∃ S, R S ∧ S.length = done.length + k ∧ (∀ i, i < done.length → S[i]? = done[i]?) ∧
      ∀ i, done.length ≤ i → i < done.length + k → ∃ o reads, ops[i]? = some o ∧ readsOk ops i reads = true ∧ opOk P ops a w (S.take i) o reads (S.getD i (.val undef))
  | 0, done, h => ⟨done, h, by simp, fun _ _ => rfl, fun i h1 h2 => by omega⟩
  | k + 1, done, h => by
    obtain ⟨o, reads, s, h1, h2, h3, h4⟩ := h
    obtain ⟨S, hR, hl, hp, hs⟩ := lin_list k _ h4
    simp only [List.length_append, List.length_cons, List.length_nil] at hl hp hs
    refine ⟨S, hR, by omega, fun i hi => by rw [hp i (by omega), List.getElem?_append_left hi], fun i hi1 hi2 => ?_⟩
    by_cases he : i = done.length
    · subst he
      have ht : S.take done.length = done := by
        apply List.ext_getElem?
        intro i
        by_cases hi : i < done.length
        · rw [List.getElem?_take_of_lt hi, hp i (by omega), List.getElem?_append_left hi]
        · rw [List.getElem?_eq_none (by rw [List.length_take]; omega), List.getElem?_eq_none (by omega)]
      refine ⟨o, reads, h1, h2, ?_⟩
      rw [ht]
      have : S.getD done.length (.val undef) = s := by
        rw [List.getD_eq_getElem?_getD, hp _ (by omega), List.getElem?_append_right (Nat.le_refl _)]; simp
      rw [this]; exact h3
    · exact hs i (by omega) (by omega)

theorem given_of {ops : Array Oper} {S : List Sp} {a : Act} {w : World} {listed : Array Bool} {a' : Act} {w' : World} (hI : RInv ops S a w listed a' w') {i : Nat} {o : Oper} (hi : ops[i]? = some o)
    (hS : i ≤ S.length) (hun : listed[i]? = some false) (hall : ∀ j ∈ deps o, listed[j]? = some true) (hlater : ∀ (k : Nat) (ok : Oper), ops[k]? = some ok → i ∈ deps ok → listed[k]? = some false) (hd : ∀ j ∈ deps o, j < i) :
    ∀ reads : List (Tmp × Option Nat), (∀ r ∈ reads, match r.2 with
      | some j => (deps o).contains j = true ∧ ((ops[j]?).bind (·.dst) = some r.1)
      | none => ∀ k : Nat, k < ops.size → ((ops[k]?).bind (·.dst)) ≠ some r.1 ∨ k = i ∨ (((ops[k]?).map fun ok => (deps ok).contains i).getD false) = true) → Given a (S.take i) a' w' reads
  | [], _ => trivial
  | (t, none) :: r, h => by
    refine ⟨?_, given_of hI hi hS hun hall hlater hd r fun x hx => h x (List.mem_cons_of_mem _ hx)⟩
    have h0 := h _ (List.mem_cons_self ..)
    simp only at h0
    have := hI.kept t fun k ok hk hkd => by
      have hks : k < ops.size := (Array.getElem?_eq_some_iff.1 hk).1
      rcases h0 k hks with h1 | rfl | h1
      · rw [hk] at h1; exact absurd hkd h1
      · exact hun
      · rw [hk] at h1; exact hlater k ok hk (by simpa using h1)
    simp [Array.getD_eq_getD_getElem?, this]
  | (t, some j) :: r, h => by
    refine ⟨?_, given_of hI hi hS hun hall hlater hd r fun x hx => h x (List.mem_cons_of_mem _ hx)⟩
    have h0 := h _ (List.mem_cons_self ..)
    simp only at h0
    obtain ⟨h1, h2⟩ := h0
    have hj : j ∈ deps o := by simpa using h1
    cases ho : ops[j]? with
    | none => rw [ho] at h2; simp at h2
    | some oj =>
      rw [ho] at h2
      have := hI.told j oj t ho (by simpa using h2) (hall j hj)
      have hlt := hd j hj
      rw [List.getD_eq_getElem?_getD, List.getElem?_take_of_lt hlt, ← List.getD_eq_getElem?_getD]
      exact this

theorem count_set_true : ∀ (l : List Bool) (i : Nat), l[i]? = some false → (l.set i true).count false + 1 = l.count false
  | [], i, h => by simp at h
  | b :: l, 0, h => by simp at h; subst h; simp
  | b :: l, i + 1, h => by
    have := count_set_true l i (by simpa using h)
    simp [List.count_cons]; omega

/-- What is wanted of a region: each operation, in the order of the text. -/
structure Hop (P : Program) (ops : Array Oper) (S : List Sp) (a : Act) (w : World) : Prop where
  len : S.length = ops.size
  uniq : dstsOk ops a.tmps.size = true
  op : ∀ i, i < ops.size → ∃ o reads, ops[i]? = some o ∧ readsOk ops i reads = true ∧ opOk P ops a w (S.take i) o reads (S.getD i (.val undef))

/-- What has come up is closed under what it waits for. -/
def Closed (ops : Array Oper) (listed : Array Bool) : Prop := ∀ (i : Nat) (o : Oper), ops[i]? = some o → listed[i]? = some true → ∀ j ∈ deps o, listed[j]? = some true

section hop
variable {P : Program} {ops : Array Oper} {S : List Sp} {a : Act} {w : World} {Q : Exit → Act → World → Prop}

theorem Hop.dlt (H : Hop P ops S a w) : ∀ (i : Nat) (o : Oper), ops[i]? = some o → ∀ j ∈ deps o, j < i := fun i o hi j hj => by
  obtain ⟨o', reads, ho, hr, _⟩ := H.op i (Array.getElem?_eq_some_iff.1 hi).1
  rw [hi] at ho; cases ho
  simp only [readsOk, hi, Bool.and_eq_true, List.all_eq_true] at hr
  simpa using hr.1.2 j hj

theorem Hop.one (H : Hop P ops S a w) : ∀ (j : Nat) (o : Oper) (t : Tmp), ops[j]? = some o → o.dst = some t → t < a.tmps.size ∧ ∀ (k : Nat) (ok : Oper), k ≠ j → ops[k]? = some ok → ok.dst ≠ some t := fun j o t hj hd => by
  have hjs := (Array.getElem?_eq_some_iff.1 hj).1
  have hu := H.uniq
  simp only [dstsOk, List.all_eq_true, List.mem_range] at hu
  have h1 := hu j hjs
  simp only [hj, Option.bind_some, hd, Bool.and_eq_true, decide_eq_true_eq, List.all_eq_true, List.mem_range] at h1
  refine ⟨h1.1, fun k ok hk hok he => ?_⟩
  have h2 := h1.2 k (Array.getElem?_eq_some_iff.1 hok).1
  simp [hok, he, hk] at h2

theorem Hop.final (H : Hop P ops S a w) {listed : Array Bool} {a' : Act} {w' : World} (hF : Fin' (Q .normal) w' ops.toList S a) (hall : ∀ i, i < ops.size → listed[i]? = some true) (hI : RInv ops S a w listed a' w') : Q .normal a' w' := by
  have hS := H.len
  have hex : ∀ i, i < S.length → ∃ v, (S.getD i (.val undef)).p v w' ∧ ∀ (o : Oper) (t : Tmp), ops[i]? = some o → o.dst = some t → a'.tmps[t]? = some v := by
    intro i hi
    have hio : i < ops.size := by omega
    obtain ⟨o, _, ho, _⟩ := H.op i hio
    cases hd : o.dst with
    | none =>
      obtain ⟨v, hv⟩ := hI.mute i o ho hd (hall i hio)
      exact ⟨v, hv, fun o' t ho' hd' => by rw [ho] at ho'; cases ho'; rw [hd] at hd'; cases hd'⟩
    | some t =>
      refine ⟨a'.tmps.getD t undef, hI.told i o t ho hd (hall i hio), fun o' t' ho' hd' => ?_⟩
      rw [ho] at ho'; cases ho'; rw [hd] at hd'; cases hd'
      have hlt : t < a'.tmps.size := by rw [hI.size]; exact (H.one i o t ho hd).1
      rw [Array.getD_eq_getD_getElem?, Array.getElem?_eq_getElem hlt]; rfl
  let f : Nat → Value := fun i => if h : i < S.length then (hex i h).choose else undef
  let vs : List Value := (List.range S.length).map f
  have hvs : ∀ i, i < S.length → vs[i]? = some (f i) := fun i hi => by simp [vs, List.getElem?_range hi]
  have hfs : ∀ i (hi : i < S.length), (S.getD i (.val undef)).p (f i) w' ∧ ∀ (o : Oper) (t : Tmp), ops[i]? = some o → o.dst = some t → a'.tmps[t]? = some (f i) := fun i hi => by
    have := (hex i hi).choose_spec
    simp only [f, hi, dif_pos]; exact this
  have hput : a' = puts ops.toList vs a := by
    have htm : a'.tmps = (puts ops.toList vs a).tmps := by
      apply Array.ext_getElem?
      intro t
      by_cases hw : ∃ (j : Nat) (o : Oper), ops[j]? = some o ∧ o.dst = some t
      · obtain ⟨j, o, hj, hd⟩ := hw
        have hjs : j < S.length := by rw [hS]; exact (Array.getElem?_eq_some_iff.1 hj).1
        rw [(hfs j hjs).2 o t hj hd]
        exact (puts_at ops.toList vs a j o t (f j) (by simpa using hj) hd (hvs j hjs) (H.one j o t hj hd).1 fun i o' hij hi => (H.one j o t hj hd).2 i o' hij (by simpa using hi)).symm
      · rw [puts_other ops.toList vs a t fun i o hi hd => hw ⟨i, o, by simpa using hi, hd⟩]
        exact hI.kept t fun j o hj hd => absurd ⟨j, o, hj, hd⟩ hw
    have hde : a'.defers = (puts ops.toList vs a).defers := by rw [puts_defers]; exact hI.defers
    cases a'; cases hp : puts ops.toList vs a; simp_all
  rw [hput]
  exact Fin'.use ops.toList S vs a (by simpa using hS.symm) (by simp [vs]) (fun i hi => by
    rw [List.getD_eq_getElem?_getD (l := vs), hvs i hi]; exact (hfs i hi).1) hF

/-- One operation that may come up comes up. -/
theorem Hop.step (H : Hop P ops S a w) {listed : Array Bool} {a' : Act} {w' : World} (hls : listed.size = ops.size) (hcl : Closed ops listed) (hI : RInv ops S a w listed a' w') {i : Nat} {o : Oper} (ho : ops[i]? = some o)
    (hun : listed[i]? = some false) (hdeps : ∀ j ∈ deps o, listed[j]? = some true) {K : Act → World → Prop}
    (hK : ∀ a'' w'', Closed ops (listed.setIfInBounds i true) → RInv ops S a w (listed.setIfInBounds i true) a'' w'' → K a'' w'') : wpOp P ops Q i K a' w' := by
  have hdlt := H.dlt
  have huniq := H.one
  have his : i < ops.size := (Array.getElem?_eq_some_iff.1 ho).1
  have hil : i < listed.size := by omega
  have hS := H.len
  obtain ⟨o', reads, ho', hr, hok⟩ := H.op i his
  rw [ho] at ho'; cases ho'
  simp only [readsOk, ho, Bool.and_eq_true, List.all_eq_true] at hr
  have hlater : ∀ (k : Nat) (ok : Oper), ops[k]? = some ok → i ∈ deps ok → listed[k]? = some false := fun k ok hk hd => by
    have hks : k < listed.size := by rw [hls]; exact (Array.getElem?_eq_some_iff.1 hk).1
    cases hb : listed[k] with
    | false => rw [Array.getElem?_eq_getElem hks, hb]
    | true =>
      have := hcl k ok hk (by rw [Array.getElem?_eq_getElem hks, hb]) i hd
      rw [hun] at this; cases this
  have hg := given_of hI ho (by omega) hun hdeps hlater (hdlt i o ho) reads fun r hrm => by
    have h2 := hr.2 r hrm
    cases hj : r.2 with
    | some j => rw [hj] at h2; simpa using h2
    | none =>
      rw [hj] at h2
      simp only [List.all_eq_true, List.mem_range, Bool.or_eq_true, bne_iff_ne, beq_iff_eq] at h2
      intro k hk
      rcases h2 k hk with (h3 | h3) | h3
      · exact .inl h3
      · exact .inr (.inl h3)
      · exact .inr (.inr h3)
  have hstep := hok a' w' hI.ext hg
  have next : ∀ v w'', Ext w' w'' → (S.getD i (.val undef)).p v w'' → K (a'.put o.dst v) w'' := by
    intro v w'' hx hs
    refine hK _ _ ?_ ?_
    · intro k ok hk hl j hj
      by_cases hki : k = i
      · subst hki; rw [ho] at hk; cases hk
        have hne : k ≠ j := by have := hdlt _ _ ho j hj; omega
        rw [Array.getElem?_setIfInBounds_ne hne]; exact hdeps j hj
      · rw [Array.getElem?_setIfInBounds_ne (Ne.symm hki)] at hl
        have := hcl k ok hk hl j hj
        by_cases hij : i = j
        · subst hij; rw [hun] at this; cases this
        · rw [Array.getElem?_setIfInBounds_ne hij]; exact this
    · refine ⟨hI.ext.trans hx, by rw [Act.put_defers']; exact hI.defers, by rw [Act.put_size]; exact hI.size, ?_, ?_, ?_⟩
      · intro j oj t hj hd hl
        by_cases hij : i = j
        · subst hij; rw [ho] at hj; cases hj
          have hlt : t < a'.tmps.size := by rw [hI.size]; exact (huniq _ _ _ ho hd).1
          rw [hd, Array.getD_eq_getD_getElem?, Act.put_get]; simp [hlt]; exact hs
        · rw [Array.getElem?_setIfInBounds_ne hij] at hl
          have h1 := hI.told j oj t hj hd hl
          have hne : o.dst ≠ some t := (huniq j oj t hj hd).2 i o hij ho
          have : (a'.put o.dst v).tmps.getD t undef = a'.tmps.getD t undef := by
            cases hod : o.dst with
            | none => rfl
            | some d => rw [Array.getD_eq_getD_getElem?, Act.put_get, if_neg (by rintro rfl; exact hne hod), ← Array.getD_eq_getD_getElem?]
          rw [this]; exact Sp.ext h1 hx
      · intro t ht
        have hne : o.dst ≠ some t := fun hd => by
          have := ht i o ho hd
          rw [Array.getElem?_setIfInBounds_self_of_lt hil] at this; cases this
        have : (a'.put o.dst v).tmps[t]? = a'.tmps[t]? := by
          cases hod : o.dst with
          | none => rfl
          | some d => rw [Act.put_get, if_neg (by rintro rfl; exact hne hod)]
        rw [this]
        refine hI.kept t fun j oj hj hd => ?_
        have := ht j oj hj hd
        by_cases hij : i = j
        · subst hij; rw [Array.getElem?_setIfInBounds_self_of_lt hil] at this; cases this
        · rwa [Array.getElem?_setIfInBounds_ne hij] at this
      · intro j oj hj hd hl
        by_cases hij : i = j
        · subst hij; exact ⟨v, hs⟩
        · rw [Array.getElem?_setIfInBounds_ne hij] at hl
          obtain ⟨u, hu'⟩ := hI.mute j oj hj hd hl
          exact ⟨u, Sp.ext hu' hx⟩
  unfold wpOp
  simp only [ho]
  split
  · rename_i hw
    rw [if_pos hw] at hstep
    exact .inl (Oper.wp_noQ (fun σ' w'' ⟨v, he, hx, hs⟩ => by subst he; exact next v w'' hx hs) hstep)
  · rename_i hw
    rw [if_neg hw] at hstep
    exact next undef w' (Ext.refl _) hstep

theorem wpAny_lin (H : Hop P ops S a w) (hQ : ∀ w' , Ext w w' → Fin' (Q .normal) w' ops.toList S a) :
    ∀ (fuel : Nat) (listed : Array Bool) (a' : Act) (w' : World), listed.size = ops.size → listed.toList.count false ≤ fuel → Closed ops listed → RInv ops S a w listed a' w' → wpAny P .any ops Q fuel listed a' w' := by
  intro fuel
  induction fuel with
  | zero =>
    intro listed a' w' hls hcnt hcl hI
    have hall : ∀ i, i < ops.size → listed[i]? = some true := fun i hi => by
      have h0 : listed.toList.count false = 0 := by omega
      have hm : false ∉ listed.toList := List.count_eq_zero.1 h0
      have hlt : i < listed.size := by omega
      rw [Array.getElem?_eq_getElem hlt]
      cases hb : listed[i] with
      | true => rfl
      | false => exact absurd (by rw [← hb]; simp) hm
    refine ⟨?_, H.final (hQ w' hI.ext) hall hI⟩
    simp only [Region.ready, List.filter_eq_nil_iff, List.mem_range]
    intro i hi
    have := hall i hi
    simp [Array.getD_eq_getD_getElem?, this]
  | succ fuel ih =>
    intro listed a' w' hls hcnt hcl hI
    have hready : ∀ i : Nat, i ∈ Region.ready .any ops listed ↔ ∃ o : Oper, ops[i]? = some o ∧ listed[i]? = some false ∧ ∀ j ∈ deps o, listed[j]? = some true := by
      intro i
      simp only [Region.ready, List.mem_filter, List.mem_range, Bool.and_eq_true, Bool.not_eq_true']
      constructor
      · rintro ⟨hi, h1, h2⟩
        obtain ⟨o, _, ho, _⟩ := H.op i hi
        have hlt : i < listed.size := by omega
        refine ⟨o, ho, ?_, fun j hj => ?_⟩
        · rw [Array.getElem?_eq_getElem hlt]; simpa [Array.getD_eq_getD_getElem?, Array.getElem?_eq_getElem hlt] using h1
        · simp only [ho, Option.map_some, Option.getD_some] at h2
          simp only [deps, List.mem_map, List.mem_filter, Array.mem_toList_iff] at hj
          obtain ⟨e, ⟨he, hb⟩, rfl⟩ := hj
          have h3 := Array.all_eq_true_iff_forall_mem.1 h2 e he
          simp only [hb, Bool.not_true, Bool.false_or] at h3
          rw [Array.getD_eq_getD_getElem?] at h3
          cases hx : listed[e.on]? with
          | none => rw [hx] at h3; simp at h3
          | some b => rw [hx] at h3; simp at h3; rw [h3]
      · rintro ⟨o, ho, h1, h2⟩
        refine ⟨(Array.getElem?_eq_some_iff.1 ho).1, by simp [Array.getD_eq_getD_getElem?, h1], ?_⟩
        simp only [ho, Option.map_some, Option.getD_some]
        refine Array.all_eq_true_iff_forall_mem.2 fun e he => ?_
        by_cases hb : Region.binds .any e = true
        · have := h2 e.on (by simp only [deps, List.mem_map, List.mem_filter, Array.mem_toList_iff]; exact ⟨e, ⟨he, hb⟩, rfl⟩)
          simp [hb, Array.getD_eq_getD_getElem?, this]
        · simp [hb]
    refine ⟨fun hnil => ?_, fun i hi => ?_⟩
    · have hall : ∀ i, i < ops.size → listed[i]? = some true := by
        intro i
        induction i using Nat.strongRecOn with
        | _ i ihi =>
          intro hi
          have hlt : i < listed.size := by omega
          obtain ⟨o, _, ho, _⟩ := H.op i hi
          cases hb : listed[i] with
          | true => rw [Array.getElem?_eq_getElem hlt, hb]
          | false =>
            have : i ∈ Region.ready .any ops listed := (hready i).2 ⟨o, ho, by rw [Array.getElem?_eq_getElem hlt, hb], fun j hj => ihi j (H.dlt i o ho j hj) (by have := H.dlt i o ho j hj; omega)⟩
            rw [hnil] at this; cases this
      exact H.final (hQ w' hI.ext) hall hI
    · obtain ⟨o, ho, hun, hdeps⟩ := (hready i).1 hi
      refine H.step hls hcl hI ho hun hdeps fun a'' w'' hcl' hI' => ih _ _ _ (by simpa using hls) ?_ hcl' hI'
      have hc : (listed.setIfInBounds i true).toList.count false + 1 = listed.toList.count false := by
        have hlf : listed.toList[i]? = some false := by simpa using hun
        rw [Array.toList_setIfInBounds]
        exact count_set_true _ _ hlf
      omega

/-- The order of the text. -/
theorem wpOps_lin (H : Hop P ops S a w) (hQ : ∀ w' , Ext w w' → Fin' (Q .normal) w' ops.toList S a) :
    ∀ (k i : Nat) (listed : Array Bool) (a' : Act) (w' : World), i + k = ops.size → listed.size = ops.size → (∀ j, j < ops.size → listed[j]? = some (decide (j < i))) → Closed ops listed → RInv ops S a w listed a' w' →
      wpOps P ops Q (List.range' i k) a' w' := by
  intro k
  induction k with
  | zero =>
    intro i listed a' w' hik hls hl hcl hI
    exact H.final (hQ w' hI.ext) (fun j hj => by rw [hl j hj]; simp; omega) hI
  | succ k ih =>
    intro i listed a' w' hik hls hl hcl hI
    obtain ⟨o, _, ho, _⟩ := H.op i (by omega)
    rw [List.range'_succ, wpOps_cons]
    refine H.step hls hcl hI ho (by rw [hl i (by omega)]; simp) (fun j hj => by have := H.dlt i o ho j hj; rw [hl j (by omega)]; simp; omega) fun a'' w'' hcl' hI' => ih (i + 1) _ _ _ (by omega) (by simpa using hls) (fun j hj => ?_) hcl' hI'
    by_cases hij : i = j
    · subst hij; rw [Array.getElem?_setIfInBounds_self_of_lt (by omega)]; simp
    · rw [Array.getElem?_setIfInBounds_ne hij, hl j hj]; congr 1; simp; omega
end hop

theorem hop_of_lin {P : Program} {ops : Array Oper} {a : Act} {w : World} {R : List Sp → Prop} (hu : dstsOk ops a.tmps.size = true) (h : Lin P ops a w R ops.size []) : ∃ S, R S ∧ Hop P ops S a w := by
  obtain ⟨S, hR, hl, _, hs⟩ := lin_list _ _ h
  simp only [List.length_nil, Nat.zero_add] at hl hs
  exact ⟨S, hR, hl, hu, fun i hi => hs i (Nat.zero_le _) hi⟩

theorem rinv_start {ops : Array Oper} {S : List Sp} {a : Act} {w : World} : RInv ops S a w (Array.replicate ops.size false) a w := by
  refine ⟨Ext.refl _, rfl, rfl, ?_, fun t h => rfl, ?_⟩
  · intro j o t hj hd hl
    have : j < ops.size := (Array.getElem?_eq_some_iff.1 hj).1
    simp [this] at hl
  · intro j o hj hd hl
    have : j < ops.size := (Array.getElem?_eq_some_iff.1 hj).1
    simp [this] at hl
theorem closed_start (ops : Array Oper) : Closed ops (Array.replicate ops.size false) := by
  intro i o hi hl
  have : i < ops.size := (Array.getElem?_eq_some_iff.1 hi).1
  simp [this] at hl

theorem wp_region_lin {P : Program} {id : Nat} {ops : Array Oper} {a : Act} {w : World} {Q : Exit → Act → World → Prop} (hm : P.follows .mixedOrders = true) (hu : dstsOk ops a.tmps.size = true)
    (h : Lin P ops a w.drew (fun S => ∀ w', Ext w.drew w' → Fin' (Q .normal) w' ops.toList S a) ops.size []) : (Code.region id ops true).wp P Q a w := by
  obtain ⟨S, hR, H⟩ := hop_of_lin hu h
  exact wp_region_any hm (wpAny_lin H hR ops.size (Array.replicate ops.size false) a w.drew (by simp) (by rw [Array.toList_replicate]; exact Nat.le_trans List.count_le_length (by simp)) (closed_start ops) rinv_start)

theorem wp_region_seq {P : Program} {id : Nat} {ops : Array Oper} {a : Act} {w : World} {Q : Exit → Act → World → Prop} (hu : dstsOk ops a.tmps.size = true)
    (h : Lin P ops a w (fun S => ∀ w', Ext w w' → Fin' (Q .normal) w' ops.toList S a) ops.size []) : (Code.region id ops false).wp P Q a w := by
  obtain ⟨S, hR, H⟩ := hop_of_lin hu h
  refine wp_region ?_
  rw [List.range_eq_range']
  exact wpOps_lin H hR ops.size 0 (Array.replicate ops.size false) a w (by omega) (by simp) (fun j hj => by simp [hj]) (closed_start ops) rinv_start

/-! ### The same, with what is done told from the last operation backwards -/
def conv (i : Nat) (reads : List (Tmp × Option Nat)) : List (Tmp × Option Nat) := reads.map fun r => (r.1, r.2.map fun k => i - 1 - k)

theorem given_conv {a : Act} {σ : Act} {w : World} {r : List Sp} : ∀ reads : List (Tmp × Option Nat), (reads.all fun x => match x.2 with | some k => decide (k < r.length) | none => true) = true →
    Given a r.reverse σ w (conv r.length reads) → Given a r σ w reads
  | [], _, _ => trivial
  | (t, none) :: rs, h, hg => by
    simp only [List.all_cons, Bool.true_and] at h
    exact ⟨hg.1, given_conv rs h hg.2⟩
  | (t, some k) :: rs, h, hg => by
    simp only [List.all_cons, Bool.and_eq_true, decide_eq_true_eq] at h
    refine ⟨?_, given_conv rs h.2 hg.2⟩
    have h1 : (r.reverse.getD (r.length - 1 - k) (.val undef)).p (σ.tmps.getD t undef) w := hg.1
    rw [List.getD_eq_getElem?_getD, List.getElem?_reverse (by omega)] at h1
    have : r.length - 1 - (r.length - 1 - k) = k := by omega
    rw [this] at h1
    rw [List.getD_eq_getElem?_getD]; exact h1

def LinR (P : Program) (ops : Array Oper) (a : Act) (w : World) (R : List Sp → Prop) : Nat → Nat → List Sp → Prop
  | 0, _, r => R r.reverse
  | f + 1, i, r => ∃ o reads s, ops[i]? = some o ∧ readsOk ops i (conv i reads) = true ∧ (reads.all fun x => match x.2 with | some k => decide (k < i) | none => true) = true ∧
      opOk P ops a w r o reads s ∧ LinR P ops a w R f (i + 1) (s :: r)

theorem lin_of_r {P : Program} {ops : Array Oper} {a : Act} {w : World} {R : List Sp → Prop} : ∀ (f : Nat) (r : List Sp), LinR P ops a w R f r.length r → Lin P ops a w R f r.reverse
  | 0, r, h => h
  | f + 1, r, h => by
    obtain ⟨o, reads, s, h1, h2, h3, h4, h5⟩ := h
    refine ⟨o, conv r.length reads, s, by simpa using h1, by simpa using h2, fun σ w' hx hg => h4 σ w' hx (given_conv reads h3 hg), ?_⟩
    have := lin_of_r f (s :: r) h5
    simpa using this

theorem LinR.step {P : Program} {ops : Array Oper} {a : Act} {w : World} {R : List Sp → Prop} {f i : Nat} {r : List Sp} {o : Oper} (reads : List (Tmp × Option Nat)) {s : Sp} (h1 : ops[i]? = some o)
    (h2 : (readsOk ops i (conv i reads) && reads.all fun x => match x.2 with | some k => decide (k < i) | none => true) = true) (h4 : opOk P ops a w r o reads s) (h5 : LinR P ops a w R f (i + 1) (s :: r)) :
    LinR P ops a w R (f + 1) i r := by
  rw [Bool.and_eq_true] at h2
  exact ⟨o, reads, s, h1, h2.1, h2.2, h4, h5⟩

theorem wp_region_linR {P : Program} {id : Nat} {ops : Array Oper} {a : Act} {w : World} {Q : Exit → Act → World → Prop} (hm : P.follows .mixedOrders = true) (hu : dstsOk ops a.tmps.size = true)
    (h : LinR P ops a w.drew (fun S => ∀ w', Ext w.drew w' → Fin' (Q .normal) w' ops.toList S a) ops.size 0 []) : (Code.region id ops true).wp P Q a w :=
  wp_region_lin hm hu (lin_of_r ops.size [] h)
theorem wp_region_seqR {P : Program} {id : Nat} {ops : Array Oper} {a : Act} {w : World} {Q : Exit → Act → World → Prop} (hu : dstsOk ops a.tmps.size = true)
    (h : LinR P ops a w (fun S => ∀ w', Ext w w' → Fin' (Q .normal) w' ops.toList S a) ops.size 0 []) : (Code.region id ops false).wp P Q a w :=
  wp_region_seq hu (lin_of_r ops.size [] h)
end Go.Proofs.Ytabbgnlabiakoaa
