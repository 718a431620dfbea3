/- Slices that read as lists of one-cell values; slices that the call owns; append of the one onto the other. Conditions: lengths within Go's int, bytes within the model's reach. · A region that draws its order of evaluation, where every operation only adds memory: it is enough to go through it once, in the order of the text. · Steps of a walk and of a region at slices whose address is not looked at, for elements of one cell: len, a cut, an index, the comparison with nil, a list written out, a store into what the call owns; single operations of a region, by kind. · Slices of bytes in this program: what reads as a list, what the call owns, append as a step of a walk. · Steps of a walk at slices whose address is not looked at: len, a cut, an index, the comparison with nil, the conversion of bytes to a string, append. · Single operations of a region that draws its order, by kind. · buildSlice of values of one cell as a step of a walk. -/
import Derived.Below
import Derived.Laws.OwnMore
import Derived.Maps.AppendAt
import Derived.Deep.AppendLies
import Derived.RegionTactic
import Derived.OwnWalk
import Derived.Deep.Draws
import Derived.Orders
import Derived.Test.YtgbhbifdfcfamaaProg
import Derived.LoopTactic
import Derived.WalkKit
import Derived.WalkSpells
import Derived.Outline
import Derived.Laws.BitsAllLaws
import Derived.Laws.BytesArg
namespace Go.Proofs.Ytgbhbifdfcfamaa
set_option maxRecDepth 100000
open Go.RowKit

/-- The slice value v reads as the one-cell values xs in w. -/
def Sl (w : World) (v : Value) (xs : List Value) : Prop :=
  ∃ (A : Option Addr) (c : Nat), v = .slice A xs.length c ∧ xs.length ≤ c ∧ c ≤ maxLen ∧ ∀ k u, xs[k]? = some u → ∃ ad : Addr, A = some ad ∧ w.cell? (ad.add k) = some u

/-- w' is w with more memory: nothing that was there has turned. -/
def Ext (w w' : World) : Prop := Below w.heap.size w w'

theorem blk_add (a : Addr) (n : Nat) : (a.add n).block = a.block := by unfold Addr.add; split <;> rfl
theorem add_add' (a : Addr) (i j : Nat) : (a.add i).add j = a.add (i + j) := by
  unfold Addr.add
  by_cases hi : i = 0 <;> by_cases hj : j = 0 <;> simp [hi, hj, Nat.add_assoc]

theorem Ext.size {a b : World} (h : Ext a b) : a.heap.size ≤ b.heap.size := Below.size h
theorem Ext.refl (w : World) : Ext w w := Below.refl _ w
theorem Ext.trans {a b c : World} (h : Ext a b) (k : Ext b c) : Ext a c := Below.trans h (Below.mono k h.size)
theorem Ext.trans' {a b c : World} (h : Ext a b) (k : Below a.heap.size b c) : Ext a c := Below.trans h k
theorem Ext.drew {a b : World} (h : Ext a b) : Ext a b.drew := Below.drew h
theorem Ext.ofDrewN (a : World) (n : Nat) : Ext a (a.drewN n) := ⟨rfl, rfl, rfl, Nat.le_refl _, fun _ _ => rfl⟩
theorem Ext.drewN {a b : World} (h : Ext a b) (n : Nat) : Ext a (b.drewN n) := h.trans (Ext.ofDrewN b n)
theorem Ext.alloc {a b : World} (h : Ext a b) (o : Obj) : Ext a (b.alloc o) := Below.alloc h h.size o
theorem Ext.below {a b : World} {B : Nat} (h : Ext a b) (hB : B ≤ a.heap.size) : Below B a b := Below.mono h hB
theorem Ext.cell {w w' : World} (h : Ext w w') {p : Addr} {u : Value} (hc : w.cell? p = some u) : w'.cell? p = some u :=
  (Below.cell h (World.block_lt_of_cell? w p hc)).trans hc
theorem Ext.setNew {a b : World} (h : Ext a b) {p : Addr} (hp : a.heap.size ≤ p.block) (u : Value) : Ext a (b.setCell p u) := Below.setCell h hp u

theorem ext_alloc_below {w w' : World} {o : Obj} (h : Below w.heap.size (w.alloc o) w') : Ext w w' := (show Below w.heap.size w (w.alloc o) from (Ext.refl w).alloc o).trans h
theorem Sl.ext {w w' : World} {v : Value} {xs : List Value} (h : Sl w v xs) (he : Ext w w') : Sl w' v xs := by
  obtain ⟨A, c, rfl, h1, h2, h3⟩ := h
  exact ⟨A, c, rfl, h1, h2, fun k u hk => by obtain ⟨ad, rfl, hc⟩ := h3 k u hk; exact ⟨ad, rfl, he.cell hc⟩⟩
theorem Sl.nil (w : World) : Sl w (.slice none 0 0) [] := ⟨none, 0, rfl, by simp, by simp [maxLen], fun k u h => by simp at h⟩
theorem Sl.len_le {w : World} {v : Value} {xs : List Value} (h : Sl w v xs) : xs.length ≤ maxLen := by
  obtain ⟨A, c, _, h1, h2, _⟩ := h; omega

section own
variable {w w' : World} {base : Nat} {e : TypeId} {v : Value} {xs : List Value}
theorem Sl.of_own (h : w.ownsRow base e 1 v xs.length xs) : Sl w v xs := by
  have h' := h
  obtain ⟨hl, hn | ⟨g, cap, cur, hv, hb, hg, h1, h2, hs, ht⟩⟩ := h
  · obtain ⟨rfl, h0⟩ := hn
    have : xs = [] := List.eq_nil_of_length_eq_zero h0
    subst this
    exact Sl.nil w
  · refine ⟨some ⟨g, 0, none⟩, cap, hv, h1, h2, fun k u hk => ⟨_, rfl, ?_⟩⟩
    exact h'.cells (g := g) (by rw [hv]; rfl) k u hk
theorem own_nil (w : World) (base : Nat) (e : TypeId) : w.ownsRow base e 1 (.slice none 0 0) ([] : List Value).length [] := World.ownsRow_nil w base e 1
theorem own_mono {B : Nat} (h : w.ownsRow base e 1 v xs.length xs) (hB : B ≤ base) : w.ownsRow B e 1 v xs.length xs := by
  obtain ⟨hl, hn | ⟨g, cap, cur, hv, hb, rest⟩⟩ := h
  · exact ⟨hl, .inl hn⟩
  · exact ⟨hl, .inr ⟨g, cap, cur, hv, Nat.le_trans hB hb, rest⟩⟩
theorem own_below {B : Nat} (h : w.ownsRow base e 1 v xs.length xs) (hb : Below B w w') (hB : w.heap.size ≤ B) : w'.ownsRow base e 1 v xs.length xs := by
  obtain ⟨hl, hn | ⟨g, cap, cur, hv, hg, hh, rest⟩⟩ := h
  · exact ⟨hl, .inl hn⟩
  · refine ⟨hl, .inr ⟨g, cap, cur, hv, hg, ?_, rest⟩⟩
    rw [hb.block g (Nat.lt_of_lt_of_le (Array.getElem?_eq_some_iff.1 hh).1 hB)]; exact hh
theorem own_ext (h : w.ownsRow base e 1 v xs.length xs) (he : Ext w w') : w'.ownsRow base e 1 v xs.length xs := own_below h he (Nat.le_refl _)
theorem own_block_lt {g : Nat} (h : w.ownsRow base e 1 v xs.length xs) (hg : v.ownBlock = some g) : base ≤ g ∧ g < w.heap.size := h.lt g hg
/-- Behind an append onto what is owned from base on. -/
theorem below_grown (hb : base ≤ w.heap.size) (h : w.ownsRow base e 1 v xs.length xs) (hg : w.grownBy w' v.ownBlock) : Below base w w' :=
  (Below.refl base w).grown hg hb (fun k hk => (h.lt k hk).1)
end own

section append
variable {P : Program} (w : World)
theorem run_append_none (base : Nat) (t ty e : TypeId) (i : TypeInfo) (ht : P.underlying t = some (.slice e)) (hi : P.info? e = some i)
    (v : Value) (n : Nat) (xs : List Value) (hown : w.ownsRow base e 1 v n xs) (c : Nat) : (Builtin.append_ #[t, t] ty #[v, .slice none 0 c]).run P w = .ok v w := by
  obtain ⟨_, ⟨rfl, rfl⟩ | ⟨g, cap, cur, rfl, _, _, hnc, _⟩⟩ := hown
  · simp [Builtin.append_, run_underlying ht, sizeOf, typeInfo, hi, Builtin.lenOf, Builtin.firstCells]
  · simp [Builtin.append_, run_underlying ht, sizeOf, typeInfo, hi, Builtin.lenOf, Builtin.firstCells, hnc, storeCells]

theorem run_append_sl (base : Nat) (t ty e : TypeId) (i : TypeInfo) (z : Value) (bytes : Nat) (ht : P.underlying t = some (.slice e)) (hi : P.info? e = some i) (hz : i.zero = some z)
    (hsize : i.size = 1) (hby : i.bytes = bytes) (hzs : z.cells.size = 1) {v s : Value} {xs ys : List Value} (hown : w.ownsRow base e 1 v xs.length xs) (hs : Sl w s ys)
    (h1 : ∀ u ∈ ys, u.oneCell' = true) (hbytes : (xs.length + ys.length) * bytes ≤ 140737488355328) (h0 : 0 < bytes) (hbase : base ≤ w.heap.size) :
    ∃ v' w', (Builtin.append_ #[t, t] ty #[v, s]).run P w = .ok v' w' ∧ w'.ownsRow base e 1 v' (xs ++ ys).length (xs ++ ys) ∧ w.grownBy w' v.ownBlock ∧
      (v'.ownBlock = v.ownBlock ∨ v'.ownBlock = some w.heap.size) := by
  have hm : xs.length + ys.length ≤ maxLen := by
    have := Nat.le_mul_of_pos_right (xs.length + ys.length) h0
    simp only [maxLen]; omega
  obtain ⟨A, c, rfl, hc1, hc2, hc⟩ := hs
  cases A with
  | none =>
    have hy : ys = [] := by
      cases ys with
      | nil => rfl
      | cons u r => obtain ⟨ad, h, _⟩ := hc 0 u rfl; cases h
    subst hy
    refine ⟨v, w, run_append_none w base t ty e i ht hi v _ xs hown c, by simpa using hown, World.grownBy.refl w _, .inl rfl⟩
  | some ad =>
    have hcells : ∀ j u, ys[j]? = some u → w.cell? (ad.add j) = some u := fun j u hj => by
      obtain ⟨ad', h, h'⟩ := hc j u hj
      injection h with h; subst h; exact h'
    obtain ⟨v', w', hrun, h2, h3, _, h5⟩ := run_append_own_at (P := P) w base t ty e i z 1 bytes ht hi hz hsize hby hzs (by omega) v xs.length xs hown ad ys.length c ys (by simp) hcells h1 hm hbytes hbase
    exact ⟨v', w', hrun, by rw [List.length_append]; exact h2, h3, h5⟩
end append
end Go.Proofs.Ytgbhbifdfcfamaa
namespace Go.Proofs.Ytgbhbifdfcfamaa
set_option maxRecDepth 100000
open Go.RowKit

/-- What is known of a value, so that more memory doesn't change it: it is v; or it is a slice that reads as xs; or something else that stays. -/
inductive Sp where
  | val (v : Value)
  | sl (xs : List Value)
  | any (p : Value → World → Prop) (st : ∀ v w w', p v w → Ext w w' → p v w')

def Sp.p : Sp → Value → World → Prop
  | .val c, v, _ => v = c
  | .sl xs, v, w => Sl w v xs
  | .any p _, v, w => p v w

theorem Sp.ext {s : Sp} {v : Value} {w w' : World} (h : s.p v w) (he : Ext w w') : s.p v w' := by
  cases s with
  | val c => exact h
  | sl xs => exact Sl.ext h he
  | any p st => exact st v w w' h he

def deps (o : Oper) : List Nat := (o.after.toList.filter (Region.binds .any)).map (·.on)

/-- What is known of the temporaries that an operation looks at. -/
def Given (a : Act) (done : List Sp) (σ : Act) (w : World) : List (Tmp × Option Nat) → Prop
  | [] => True
  | (t, none) :: r => σ.tmps.getD t undef = a.tmps.getD t undef ∧ Given a done σ w r
  | (t, some j) :: r => (done.getD j (.val undef)).p (σ.tmps.getD t undef) w ∧ Given a done σ w r

def readsOk (ops : Array Oper) (i : Nat) (reads : List (Tmp × Option Nat)) : Bool :=
  match ops[i]? with
  | none => false
  | some o => (o.looksAt ops).all (fun t => reads.any fun r => r.1 == t) && (deps o).all (fun j => decide (j < i)) &&
    reads.all fun r => match r.2 with
      | some j => (deps o).contains j && ((ops[j]?).bind (·.dst) == some r.1)
      | none => (List.range ops.size).all fun k => (((ops[k]?).bind (·.dst)) != some r.1) || k == i || (((ops[k]?).map fun ok => (deps ok).contains i).getD false)

def dstsOk (ops : Array Oper) (n : Nat) : Bool :=
  (List.range ops.size).all fun j => match (ops[j]?).bind (·.dst) with
    | none => true
    | some t => decide (t < n) && (List.range ops.size).all fun k => k == j || ((ops[k]?).bind (·.dst)) != some t

def opOk (P : Program) (ops : Array Oper) (a : Act) (w : World) (done : List Sp) (o : Oper) (reads : List (Tmp × Option Nat)) (s : Sp) : Prop :=
  ∀ (σ : Act) (w' : World), Ext w w' → Given a done σ w' reads →
    if Region.wanted o (yielded ops σ.tmps) = true then o.wp P σ w' (fun σ' w'' => ∃ v, σ' = σ.put o.dst v ∧ Ext w' w'' ∧ s.p v w'') (fun _ _ _ => False) else s.p undef w'

/-- The region in the order of the text. -/
def Lin (P : Program) (ops : Array Oper) (a : Act) (w : World) (R : List Sp → Prop) : Nat → List Sp → Prop
  | 0, done => R done
  | k + 1, done => ∃ o reads s, ops[done.length]? = some o ∧ readsOk ops done.length reads = true ∧ opOk P ops a w done o reads s ∧ Lin P ops a w R k (done ++ [s])

/-- What is left to show behind the region. -/
def Fin' (Q : Act → World → Prop) (w : World) : List Oper → List Sp → Act → Prop
  | o :: os, .val c :: ss, acc => Fin' Q w os ss (acc.put o.dst c)
  | o :: os, .sl xs :: ss, acc => ∀ v, Sl w v xs → Fin' Q w os ss (acc.put o.dst v)
  | o :: os, .any p _ :: ss, acc => ∀ v, p v w → Fin' Q w os ss (acc.put o.dst v)
  | _, _, acc => Q acc w

def puts : List Oper → List Value → Act → Act
  | o :: os, v :: vs, acc => puts os vs (acc.put o.dst v)
  | _, _, acc => acc

theorem Fin'.use {Q : Act → World → Prop} {w : World} : ∀ (os : List Oper) (ss : List Sp) (vs : List Value) (acc : Act), os.length = ss.length → vs.length = ss.length →
    (∀ i, i < ss.length → (ss.getD i (.val undef)).p (vs.getD i undef) w) → Fin' Q w os ss acc → Q (puts os vs acc) w
  | [], [], [], acc, _, _, _, h => h
  | [], [], _ :: _, _, _, h2, _, _ => by simp at h2
  | [], _ :: _, _, _, h1, _, _, _ => by simp at h1
  | _ :: _, [], _, _, h1, _, _, _ => by simp at h1
  | _ :: _, _ :: _, [], _, _, h2, _, _ => by simp at h2
  | o :: os, s :: ss, v :: vs, acc, h1, h2, h3, h => by
    have h0 : s.p v w := by simpa using h3 0 (by simp)
    have hr : ∀ i, i < ss.length → (ss.getD i (.val undef)).p (vs.getD i undef) w := fun i hi => by simpa using h3 (i + 1) (by simpa using hi)
    have h1' : os.length = ss.length := by simpa using h1
    have h2' : vs.length = ss.length := by simpa using h2
    cases s with
    | val c =>
      obtain rfl : v = c := h0
      exact Fin'.use os ss vs _ h1' h2' hr h
    | sl xs => exact Fin'.use os ss vs _ h1' h2' hr (h v h0)
    | any p st => exact Fin'.use os ss vs _ h1' h2' hr (h v h0)

theorem Act.put_size (a : Act) (d : Option Tmp) (v : Value) : (a.put d v).tmps.size = a.tmps.size := by cases d <;> simp [Act.put]
theorem Act.put_defers' (a : Act) (d : Option Tmp) (v : Value) : (a.put d v).defers = a.defers := by cases d <;> rfl
theorem Act.put_get (a : Act) (d t : Tmp) (v : Value) : (a.put (some d) v).tmps[t]? = if d = t then (if t < a.tmps.size then some v else none) else a.tmps[t]? := by
  simp only [Act.put, Array.getElem?_setIfInBounds]
  split <;> simp_all
theorem puts_size : ∀ (os : List Oper) (vs : List Value) (acc : Act), (puts os vs acc).tmps.size = acc.tmps.size
  | [], _, _ => by simp [puts]
  | _ :: _, [], _ => by simp [puts]
  | _ :: os, _ :: vs, acc => by rw [puts, puts_size os vs, Act.put_size]
theorem puts_defers : ∀ (os : List Oper) (vs : List Value) (acc : Act), (puts os vs acc).defers = acc.defers
  | [], _, _ => by simp [puts]
  | _ :: _, [], _ => by simp [puts]
  | _ :: os, _ :: vs, acc => by rw [puts, puts_defers os vs, Act.put_defers']
theorem puts_other : ∀ (os : List Oper) (vs : List Value) (acc : Act) (t : Tmp), (∀ (i : Nat) (o : Oper), os[i]? = some o → o.dst ≠ some t) → (puts os vs acc).tmps[t]? = acc.tmps[t]?
  | [], _, _, _, _ => by simp [puts]
  | _ :: _, [], _, _, _ => by simp [puts]
  | o :: os, v :: vs, acc, t, h => by
    rw [puts, puts_other os vs _ t fun i o hi => h (i + 1) o (by simpa using hi)]
    have h0 := h 0 o rfl
    cases hd : o.dst with
    | none => rfl
    | some d => rw [Act.put_get, if_neg (by rintro rfl; exact h0 hd)]
theorem puts_at : ∀ (os : List Oper) (vs : List Value) (acc : Act) (j : Nat) (o : Oper) (t : Tmp) (v : Value), os[j]? = some o → o.dst = some t → vs[j]? = some v → t < acc.tmps.size →
    (∀ (i : Nat) (o : Oper), i ≠ j → os[i]? = some o → o.dst ≠ some t) → (puts os vs acc).tmps[t]? = some v
  | [], _, _, _, _, _, _, h, _, _, _, _ => by simp at h
  | _ :: _, [], _, _, _, _, _, _, _, h, _, _ => by simp at h
  | o' :: os, v' :: vs, acc, 0, o, t, v, ho, hd, hv, ht, hne => by
    obtain rfl : o' = o := by simpa using ho
    obtain rfl : v' = v := by simpa using hv
    rw [puts, puts_other os vs _ t fun i o hi => hne (i + 1) o (by omega) (by simpa using hi), hd, Act.put_get]
    simp [ht]
  | o' :: os, v' :: vs, acc, j + 1, o, t, v, ho, hd, hv, ht, hne => by
    rw [puts]
    exact puts_at os vs _ j o t v (by simpa using ho) hd (by simpa using hv) (by rw [Act.put_size]; exact ht) fun i o hij hi => hne (i + 1) o (by omega) (by simpa using hi)

theorem Oper.wp_noQ {P : Program} {o : Oper} {a : Act} {w : World} {K K' : Act → World → Prop} {Q : Exit → Act → World → Prop} (hK : ∀ a w, K a w → K' a w) (h : o.wp P a w K (fun _ _ _ => False)) : o.wp P a w K' Q := by
  unfold Oper.wp at *
  generalize (execOp a.eval o).run P w = r at *
  cases r with
  | ok n w' =>
    cases n <;> simp only [Oper.upon] at h ⊢
    case value u => exact hK _ _ h
    case skip => exact hK _ _ h
    case defer d => exact hK _ _ h
    case enter f args =>
      refine Calls.mono h fun e w'' he => ?_
      cases e with
      | returned u => exact hK _ _ he
      | panicked c => exact he.elim
      | outgrown => obtain ⟨_, _, h⟩ := he; exact h.elim
    case row row args => exact Rows.mono h fun u w'' he => hK _ _ he
  | halt x w' =>
    cases x <;> simp only [Oper.upon] at h ⊢

structure RInv (ops : Array Oper) (S : List Sp) (a : Act) (w : World) (listed : Array Bool) (a' : Act) (w' : World) : Prop where
  ext : Ext w w'
  defers : a'.defers = a.defers
  size : a'.tmps.size = a.tmps.size
  told : ∀ (j : Nat) (o : Oper) (t : Tmp), ops[j]? = some o → o.dst = some t → listed[j]? = some true → (S.getD j (.val undef)).p (a'.tmps.getD t undef) w'
  kept : ∀ t : Tmp, (∀ (j : Nat) (o : Oper), ops[j]? = some o → o.dst = some t → listed[j]? = some false) → a'.tmps[t]? = a.tmps[t]?
  mute : ∀ (j : Nat) (o : Oper), ops[j]? = some o → o.dst = none → listed[j]? = some true → ∃ v, (S.getD j (.val undef)).p v w'

theorem lin_list {P : Program} {ops : Array Oper} {a : Act} {w : World} {R : List Sp → Prop} : ∀ (k : Nat) (done : List Sp), Lin P ops a w R k done →
    ∃ S, R S ∧ S.length = done.length + k ∧ (∀ i, i < done.length → S[i]? = done[i]?) ∧
      ∀ i, done.length ≤ i → i < done.length + k → ∃ o reads, ops[i]? = some o ∧ readsOk ops i reads = true ∧ opOk P ops a w (S.take i) o reads (S.getD i (.val undef))
  | 0, done, h => ⟨done, h, by simp, fun _ _ => rfl, fun i h1 h2 => by omega⟩
  | k + 1, done, h => by
    obtain ⟨o, reads, s, h1, h2, h3, h4⟩ := h
    obtain ⟨S, hR, hl, hp, hs⟩ := lin_list k _ h4
    simp only [List.length_append, List.length_cons, List.length_nil] at hl hp hs
    refine ⟨S, hR, by omega, fun i hi => by rw [hp i (by omega), List.getElem?_append_left hi], fun i hi1 hi2 => ?_⟩
    by_cases he : i = done.length
    · subst he
      have ht : S.take done.length = done := by
        apply List.ext_getElem?
        intro i
        by_cases hi : i < done.length
        · rw [List.getElem?_take_of_lt hi, hp i (by omega), List.getElem?_append_left hi]
        · rw [List.getElem?_eq_none (by rw [List.length_take]; omega), List.getElem?_eq_none (by omega)]
      refine ⟨o, reads, h1, h2, ?_⟩
      rw [ht]
      have : S.getD done.length (.val undef) = s := by
        rw [List.getD_eq_getElem?_getD, hp _ (by omega), List.getElem?_append_right (Nat.le_refl _)]; simp
      rw [this]; exact h3
    · exact hs i (by omega) (by omega)

theorem given_of {ops : Array Oper} {S : List Sp} {a : Act} {w : World} {listed : Array Bool} {a' : Act} {w' : World} (hI : RInv ops S a w listed a' w') {i : Nat} {o : Oper} (hi : ops[i]? = some o)
    (hS : i ≤ S.length) (hun : listed[i]? = some false) (hall : ∀ j ∈ deps o, listed[j]? = some true) (hlater : ∀ (k : Nat) (ok : Oper), ops[k]? = some ok → i ∈ deps ok → listed[k]? = some false) (hd : ∀ j ∈ deps o, j < i) :
    ∀ reads : List (Tmp × Option Nat), (∀ r ∈ reads, match r.2 with
      | some j => (deps o).contains j = true ∧ ((ops[j]?).bind (·.dst) = some r.1)
      | none => ∀ k : Nat, k < ops.size → ((ops[k]?).bind (·.dst)) ≠ some r.1 ∨ k = i ∨ (((ops[k]?).map fun ok => (deps ok).contains i).getD false) = true) → Given a (S.take i) a' w' reads
  | [], _ => trivial
  | (t, none) :: r, h => by
    refine ⟨?_, given_of hI hi hS hun hall hlater hd r fun x hx => h x (List.mem_cons_of_mem _ hx)⟩
    have h0 := h _ (List.mem_cons_self ..)
    simp only at h0
    have := hI.kept t fun k ok hk hkd => by
      have hks : k < ops.size := (Array.getElem?_eq_some_iff.1 hk).1
      rcases h0 k hks with h1 | rfl | h1
      · rw [hk] at h1; exact absurd hkd h1
      · exact hun
      · rw [hk] at h1; exact hlater k ok hk (by simpa using h1)
    simp [Array.getD_eq_getD_getElem?, this]
  | (t, some j) :: r, h => by
    refine ⟨?_, given_of hI hi hS hun hall hlater hd r fun x hx => h x (List.mem_cons_of_mem _ hx)⟩
    have h0 := h _ (List.mem_cons_self ..)
    simp only at h0
    obtain ⟨h1, h2⟩ := h0
    have hj : j ∈ deps o := by simpa using h1
    cases ho : ops[j]? with
    | none => rw [ho] at h2; simp at h2
    | some oj =>
      rw [ho] at h2
      have := hI.told j oj t ho (by simpa using h2) (hall j hj)
      have hlt := hd j hj
      rw [List.getD_eq_getElem?_getD, List.getElem?_take_of_lt hlt, ← List.getD_eq_getElem?_getD]
      exact this

theorem count_set_true : ∀ (l : List Bool) (i : Nat), l[i]? = some false → (l.set i true).count false + 1 = l.count false
  | [], i, h => by simp at h
  | b :: l, 0, h => by simp at h; subst h; simp
  | b :: l, i + 1, h => by
    have := count_set_true l i (by simpa using h)
    simp [List.count_cons]; omega

/-- What is wanted of a region: each operation, in the order of the text. -/
structure Hop (P : Program) (ops : Array Oper) (S : List Sp) (a : Act) (w : World) : Prop where
  len : S.length = ops.size
  uniq : dstsOk ops a.tmps.size = true
  op : ∀ i, i < ops.size → ∃ o reads, ops[i]? = some o ∧ readsOk ops i reads = true ∧ opOk P ops a w (S.take i) o reads (S.getD i (.val undef))

/-- What has come up is closed under what it waits for. -/
def Closed (ops : Array Oper) (listed : Array Bool) : Prop := ∀ (i : Nat) (o : Oper), ops[i]? = some o → listed[i]? = some true → ∀ j ∈ deps o, listed[j]? = some true

section hop
variable {P : Program} {ops : Array Oper} {S : List Sp} {a : Act} {w : World} {Q : Exit → Act → World → Prop}

theorem Hop.dlt (H : Hop P ops S a w) : ∀ (i : Nat) (o : Oper), ops[i]? = some o → ∀ j ∈ deps o, j < i := fun i o hi j hj => by
  obtain ⟨o', reads, ho, hr, _⟩ := H.op i (Array.getElem?_eq_some_iff.1 hi).1
  rw [hi] at ho; cases ho
  simp only [readsOk, hi, Bool.and_eq_true, List.all_eq_true] at hr
  simpa using hr.1.2 j hj

theorem Hop.one (H : Hop P ops S a w) : ∀ (j : Nat) (o : Oper) (t : Tmp), ops[j]? = some o → o.dst = some t → t < a.tmps.size ∧ ∀ (k : Nat) (ok : Oper), k ≠ j → ops[k]? = some ok → ok.dst ≠ some t := fun j o t hj hd => by
  have hjs := (Array.getElem?_eq_some_iff.1 hj).1
  have hu := H.uniq
  simp only [dstsOk, List.all_eq_true, List.mem_range] at hu
  have h1 := hu j hjs
  simp only [hj, Option.bind_some, hd, Bool.and_eq_true, decide_eq_true_eq, List.all_eq_true, List.mem_range] at h1
  refine ⟨h1.1, fun k ok hk hok he => ?_⟩
  have h2 := h1.2 k (Array.getElem?_eq_some_iff.1 hok).1
  simp [hok, he, hk] at h2

theorem Hop.final (H : Hop P ops S a w) {listed : Array Bool} {a' : Act} {w' : World} (hF : Fin' (Q .normal) w' ops.toList S a) (hall : ∀ i, i < ops.size → listed[i]? = some true) (hI : RInv ops S a w listed a' w') : Q .normal a' w' := by
  have hS := H.len
  have hex : ∀ i, i < S.length → ∃ v, (S.getD i (.val undef)).p v w' ∧ ∀ (o : Oper) (t : Tmp), ops[i]? = some o → o.dst = some t → a'.tmps[t]? = some v := by
    intro i hi
    have hio : i < ops.size := by omega
    obtain ⟨o, _, ho, _⟩ := H.op i hio
    cases hd : o.dst with
    | none =>
      obtain ⟨v, hv⟩ := hI.mute i o ho hd (hall i hio)
      exact ⟨v, hv, fun o' t ho' hd' => by rw [ho] at ho'; cases ho'; rw [hd] at hd'; cases hd'⟩
    | some t =>
      refine ⟨a'.tmps.getD t undef, hI.told i o t ho hd (hall i hio), fun o' t' ho' hd' => ?_⟩
      rw [ho] at ho'; cases ho'; rw [hd] at hd'; cases hd'
      have hlt : t < a'.tmps.size := by rw [hI.size]; exact (H.one i o t ho hd).1
      rw [Array.getD_eq_getD_getElem?, Array.getElem?_eq_getElem hlt]; rfl
  let f : Nat → Value := fun i => if h : i < S.length then (hex i h).choose else undef
  let vs : List Value := (List.range S.length).map f
  have hvs : ∀ i, i < S.length → vs[i]? = some (f i) := fun i hi => by simp [vs, List.getElem?_range hi]
  have hfs : ∀ i (hi : i < S.length), (S.getD i (.val undef)).p (f i) w' ∧ ∀ (o : Oper) (t : Tmp), ops[i]? = some o → o.dst = some t → a'.tmps[t]? = some (f i) := fun i hi => by
    have := (hex i hi).choose_spec
    simp only [f, hi, dif_pos]; exact this
  have hput : a' = puts ops.toList vs a := by
    have htm : a'.tmps = (puts ops.toList vs a).tmps := by
      apply Array.ext_getElem?
      intro t
      by_cases hw : ∃ (j : Nat) (o : Oper), ops[j]? = some o ∧ o.dst = some t
      · obtain ⟨j, o, hj, hd⟩ := hw
        have hjs : j < S.length := by rw [hS]; exact (Array.getElem?_eq_some_iff.1 hj).1
        rw [(hfs j hjs).2 o t hj hd]
        exact (puts_at ops.toList vs a j o t (f j) (by simpa using hj) hd (hvs j hjs) (H.one j o t hj hd).1 fun i o' hij hi => (H.one j o t hj hd).2 i o' hij (by simpa using hi)).symm
      · rw [puts_other ops.toList vs a t fun i o hi hd => hw ⟨i, o, by simpa using hi, hd⟩]
        exact hI.kept t fun j o hj hd => absurd ⟨j, o, hj, hd⟩ hw
    have hde : a'.defers = (puts ops.toList vs a).defers := by rw [puts_defers]; exact hI.defers
    cases a'; cases hp : puts ops.toList vs a; simp_all
  rw [hput]
  exact Fin'.use ops.toList S vs a (by simpa using hS.symm) (by simp [vs]) (fun i hi => by
    rw [List.getD_eq_getElem?_getD (l := vs), hvs i hi]; exact (hfs i hi).1) hF

/-- One operation that may come up comes up. -/
theorem Hop.step (H : Hop P ops S a w) {listed : Array Bool} {a' : Act} {w' : World} (hls : listed.size = ops.size) (hcl : Closed ops listed) (hI : RInv ops S a w listed a' w') {i : Nat} {o : Oper} (ho : ops[i]? = some o)
    (hun : listed[i]? = some false) (hdeps : ∀ j ∈ deps o, listed[j]? = some true) {K : Act → World → Prop}
    (hK : ∀ a'' w'', Closed ops (listed.setIfInBounds i true) → RInv ops S a w (listed.setIfInBounds i true) a'' w'' → K a'' w'') : wpOp P ops Q i K a' w' := by
  have hdlt := H.dlt
  have huniq := H.one
  have his : i < ops.size := (Array.getElem?_eq_some_iff.1 ho).1
  have hil : i < listed.size := by omega
  have hS := H.len
  obtain ⟨o', reads, ho', hr, hok⟩ := H.op i his
  rw [ho] at ho'; cases ho'
  simp only [readsOk, ho, Bool.and_eq_true, List.all_eq_true] at hr
  have hlater : ∀ (k : Nat) (ok : Oper), ops[k]? = some ok → i ∈ deps ok → listed[k]? = some false := fun k ok hk hd => by
    have hks : k < listed.size := by rw [hls]; exact (Array.getElem?_eq_some_iff.1 hk).1
    cases hb : listed[k] with
    | false => rw [Array.getElem?_eq_getElem hks, hb]
    | true =>
      have := hcl k ok hk (by rw [Array.getElem?_eq_getElem hks, hb]) i hd
      rw [hun] at this; cases this
  have hg := given_of hI ho (by omega) hun hdeps hlater (hdlt i o ho) reads fun r hrm => by
    have h2 := hr.2 r hrm
    cases hj : r.2 with
    | some j => rw [hj] at h2; simpa using h2
    | none =>
      rw [hj] at h2
      simp only [List.all_eq_true, List.mem_range, Bool.or_eq_true, bne_iff_ne, beq_iff_eq] at h2
      intro k hk
      rcases h2 k hk with (h3 | h3) | h3
      · exact .inl h3
      · exact .inr (.inl h3)
      · exact .inr (.inr h3)
  have hstep := hok a' w' hI.ext hg
  have next : ∀ v w'', Ext w' w'' → (S.getD i (.val undef)).p v w'' → K (a'.put o.dst v) w'' := by
    intro v w'' hx hs
    refine hK _ _ ?_ ?_
    · intro k ok hk hl j hj
      by_cases hki : k = i
      · subst hki; rw [ho] at hk; cases hk
        have hne : k ≠ j := by have := hdlt _ _ ho j hj; omega
        rw [Array.getElem?_setIfInBounds_ne hne]; exact hdeps j hj
      · rw [Array.getElem?_setIfInBounds_ne (Ne.symm hki)] at hl
        have := hcl k ok hk hl j hj
        by_cases hij : i = j
        · subst hij; rw [hun] at this; cases this
        · rw [Array.getElem?_setIfInBounds_ne hij]; exact this
    · refine ⟨hI.ext.trans hx, by rw [Act.put_defers']; exact hI.defers, by rw [Act.put_size]; exact hI.size, ?_, ?_, ?_⟩
      · intro j oj t hj hd hl
        by_cases hij : i = j
        · subst hij; rw [ho] at hj; cases hj
          have hlt : t < a'.tmps.size := by rw [hI.size]; exact (huniq _ _ _ ho hd).1
          rw [hd, Array.getD_eq_getD_getElem?, Act.put_get]; simp [hlt]; exact hs
        · rw [Array.getElem?_setIfInBounds_ne hij] at hl
          have h1 := hI.told j oj t hj hd hl
          have hne : o.dst ≠ some t := (huniq j oj t hj hd).2 i o hij ho
          have : (a'.put o.dst v).tmps.getD t undef = a'.tmps.getD t undef := by
            cases hod : o.dst with
            | none => rfl
            | some d => rw [Array.getD_eq_getD_getElem?, Act.put_get, if_neg (by rintro rfl; exact hne hod), ← Array.getD_eq_getD_getElem?]
          rw [this]; exact Sp.ext h1 hx
      · intro t ht
        have hne : o.dst ≠ some t := fun hd => by
          have := ht i o ho hd
          rw [Array.getElem?_setIfInBounds_self_of_lt hil] at this; cases this
        have : (a'.put o.dst v).tmps[t]? = a'.tmps[t]? := by
          cases hod : o.dst with
          | none => rfl
          | some d => rw [Act.put_get, if_neg (by rintro rfl; exact hne hod)]
        rw [this]
        refine hI.kept t fun j oj hj hd => ?_
        have := ht j oj hj hd
        by_cases hij : i = j
        · subst hij; rw [Array.getElem?_setIfInBounds_self_of_lt hil] at this; cases this
        · rwa [Array.getElem?_setIfInBounds_ne hij] at this
      · intro j oj hj hd hl
        by_cases hij : i = j
        · subst hij; exact ⟨v, hs⟩
        · rw [Array.getElem?_setIfInBounds_ne hij] at hl
          obtain ⟨u, hu'⟩ := hI.mute j oj hj hd hl
          exact ⟨u, Sp.ext hu' hx⟩
  unfold wpOp
  simp only [ho]
  split
  · rename_i hw
    rw [if_pos hw] at hstep
    exact .inl (Oper.wp_noQ (fun σ' w'' ⟨v, he, hx, hs⟩ => by subst he; exact next v w'' hx hs) hstep)
  · rename_i hw
    rw [if_neg hw] at hstep
    exact next undef w' (Ext.refl _) hstep

theorem wpAny_lin (H : Hop P ops S a w) (hQ : ∀ w' , Ext w w' → Fin' (Q .normal) w' ops.toList S a) :
    ∀ (fuel : Nat) (listed : Array Bool) (a' : Act) (w' : World), listed.size = ops.size → listed.toList.count false ≤ fuel → Closed ops listed → RInv ops S a w listed a' w' → wpAny P .any ops Q fuel listed a' w' := by
  intro fuel
  induction fuel with
  | zero =>
    intro listed a' w' hls hcnt hcl hI
    have hall : ∀ i, i < ops.size → listed[i]? = some true := fun i hi => by
      have h0 : listed.toList.count false = 0 := by omega
      have hm : false ∉ listed.toList := List.count_eq_zero.1 h0
      have hlt : i < listed.size := by omega
      rw [Array.getElem?_eq_getElem hlt]
      cases hb : listed[i] with
      | true => rfl
      | false => exact absurd (by rw [← hb]; simp) hm
    refine ⟨?_, H.final (hQ w' hI.ext) hall hI⟩
    simp only [Region.ready, List.filter_eq_nil_iff, List.mem_range]
    intro i hi
    have := hall i hi
    simp [Array.getD_eq_getD_getElem?, this]
  | succ fuel ih =>
    intro listed a' w' hls hcnt hcl hI
    have hready : ∀ i : Nat, i ∈ Region.ready .any ops listed ↔ ∃ o : Oper, ops[i]? = some o ∧ listed[i]? = some false ∧ ∀ j ∈ deps o, listed[j]? = some true := by
      intro i
      simp only [Region.ready, List.mem_filter, List.mem_range, Bool.and_eq_true, Bool.not_eq_true']
      constructor
      · rintro ⟨hi, h1, h2⟩
        obtain ⟨o, _, ho, _⟩ := H.op i hi
        have hlt : i < listed.size := by omega
        refine ⟨o, ho, ?_, fun j hj => ?_⟩
        · rw [Array.getElem?_eq_getElem hlt]; simpa [Array.getD_eq_getD_getElem?, Array.getElem?_eq_getElem hlt] using h1
        · simp only [ho, Option.map_some, Option.getD_some] at h2
          simp only [deps, List.mem_map, List.mem_filter, Array.mem_toList_iff] at hj
          obtain ⟨e, ⟨he, hb⟩, rfl⟩ := hj
          have h3 := Array.all_eq_true_iff_forall_mem.1 h2 e he
          simp only [hb, Bool.not_true, Bool.false_or] at h3
          rw [Array.getD_eq_getD_getElem?] at h3
          cases hx : listed[e.on]? with
          | none => rw [hx] at h3; simp at h3
          | some b => rw [hx] at h3; simp at h3; rw [h3]
      · rintro ⟨o, ho, h1, h2⟩
        refine ⟨(Array.getElem?_eq_some_iff.1 ho).1, by simp [Array.getD_eq_getD_getElem?, h1], ?_⟩
        simp only [ho, Option.map_some, Option.getD_some]
        refine Array.all_eq_true_iff_forall_mem.2 fun e he => ?_
        by_cases hb : Region.binds .any e = true
        · have := h2 e.on (by simp only [deps, List.mem_map, List.mem_filter, Array.mem_toList_iff]; exact ⟨e, ⟨he, hb⟩, rfl⟩)
          simp [hb, Array.getD_eq_getD_getElem?, this]
        · simp [hb]
    refine ⟨fun hnil => ?_, fun i hi => ?_⟩
    · have hall : ∀ i, i < ops.size → listed[i]? = some true := by
        intro i
        induction i using Nat.strongRecOn with
        | _ i ihi =>
          intro hi
          have hlt : i < listed.size := by omega
          obtain ⟨o, _, ho, _⟩ := H.op i hi
          cases hb : listed[i] with
          | true => rw [Array.getElem?_eq_getElem hlt, hb]
          | false =>
            have : i ∈ Region.ready .any ops listed := (hready i).2 ⟨o, ho, by rw [Array.getElem?_eq_getElem hlt, hb], fun j hj => ihi j (H.dlt i o ho j hj) (by have := H.dlt i o ho j hj; omega)⟩
            rw [hnil] at this; cases this
      exact H.final (hQ w' hI.ext) hall hI
    · obtain ⟨o, ho, hun, hdeps⟩ := (hready i).1 hi
      refine H.step hls hcl hI ho hun hdeps fun a'' w'' hcl' hI' => ih _ _ _ (by simpa using hls) ?_ hcl' hI'
      have hc : (listed.setIfInBounds i true).toList.count false + 1 = listed.toList.count false := by
        have hlf : listed.toList[i]? = some false := by simpa using hun
        rw [Array.toList_setIfInBounds]
        exact count_set_true _ _ hlf
      omega

/-- The order of the text. -/
theorem wpOps_lin (H : Hop P ops S a w) (hQ : ∀ w' , Ext w w' → Fin' (Q .normal) w' ops.toList S a) :
    ∀ (k i : Nat) (listed : Array Bool) (a' : Act) (w' : World), i + k = ops.size → listed.size = ops.size → (∀ j, j < ops.size → listed[j]? = some (decide (j < i))) → Closed ops listed → RInv ops S a w listed a' w' →
      wpOps P ops Q (List.range' i k) a' w' := by
  intro k
  induction k with
  | zero =>
    intro i listed a' w' hik hls hl hcl hI
    exact H.final (hQ w' hI.ext) (fun j hj => by rw [hl j hj]; simp; omega) hI
  | succ k ih =>
    intro i listed a' w' hik hls hl hcl hI
    obtain ⟨o, _, ho, _⟩ := H.op i (by omega)
    rw [List.range'_succ, wpOps_cons]
    refine H.step hls hcl hI ho (by rw [hl i (by omega)]; simp) (fun j hj => by have := H.dlt i o ho j hj; rw [hl j (by omega)]; simp; omega) fun a'' w'' hcl' hI' => ih (i + 1) _ _ _ (by omega) (by simpa using hls) (fun j hj => ?_) hcl' hI'
    by_cases hij : i = j
    · subst hij; rw [Array.getElem?_setIfInBounds_self_of_lt (by omega)]; simp
    · rw [Array.getElem?_setIfInBounds_ne hij, hl j hj]; congr 1; simp; omega
end hop

theorem hop_of_lin {P : Program} {ops : Array Oper} {a : Act} {w : World} {R : List Sp → Prop} (hu : dstsOk ops a.tmps.size = true) (h : Lin P ops a w R ops.size []) : ∃ S, R S ∧ Hop P ops S a w := by
  obtain ⟨S, hR, hl, _, hs⟩ := lin_list _ _ h
  simp only [List.length_nil, Nat.zero_add] at hl hs
  exact ⟨S, hR, hl, hu, fun i hi => hs i (Nat.zero_le _) hi⟩

theorem rinv_start {ops : Array Oper} {S : List Sp} {a : Act} {w : World} : RInv ops S a w (Array.replicate ops.size false) a w := by
  refine ⟨Ext.refl _, rfl, rfl, ?_, fun t h => rfl, ?_⟩
  · intro j o t hj hd hl
    have : j < ops.size := (Array.getElem?_eq_some_iff.1 hj).1
    simp [this] at hl
  · intro j o hj hd hl
    have : j < ops.size := (Array.getElem?_eq_some_iff.1 hj).1
    simp [this] at hl
theorem closed_start (ops : Array Oper) : Closed ops (Array.replicate ops.size false) := by
  intro i o hi hl
  have : i < ops.size := (Array.getElem?_eq_some_iff.1 hi).1
  simp [this] at hl

theorem wp_region_lin {P : Program} {id : Nat} {ops : Array Oper} {a : Act} {w : World} {Q : Exit → Act → World → Prop} (hm : P.follows .mixedOrders = true) (hu : dstsOk ops a.tmps.size = true)
    (h : Lin P ops a w.drew (fun S => ∀ w', Ext w.drew w' → Fin' (Q .normal) w' ops.toList S a) ops.size []) : (Code.region id ops true).wp P Q a w := by
  obtain ⟨S, hR, H⟩ := hop_of_lin hu h
  exact wp_region_any hm (wpAny_lin H hR ops.size (Array.replicate ops.size false) a w.drew (by simp) (by rw [Array.toList_replicate]; exact Nat.le_trans List.count_le_length (by simp)) (closed_start ops) rinv_start)

theorem wp_region_seq {P : Program} {id : Nat} {ops : Array Oper} {a : Act} {w : World} {Q : Exit → Act → World → Prop} (hu : dstsOk ops a.tmps.size = true)
    (h : Lin P ops a w (fun S => ∀ w', Ext w w' → Fin' (Q .normal) w' ops.toList S a) ops.size []) : (Code.region id ops false).wp P Q a w := by
  obtain ⟨S, hR, H⟩ := hop_of_lin hu h
  refine wp_region ?_
  rw [List.range_eq_range']
  exact wpOps_lin H hR ops.size 0 (Array.replicate ops.size false) a w (by omega) (by simp) (fun j hj => by simp [hj]) (closed_start ops) rinv_start

/-! ### The same, with what is done told from the last operation backwards -/
def conv (i : Nat) (reads : List (Tmp × Option Nat)) : List (Tmp × Option Nat) := reads.map fun r => (r.1, r.2.map fun k => i - 1 - k)

theorem given_conv {a : Act} {σ : Act} {w : World} {r : List Sp} : ∀ reads : List (Tmp × Option Nat), (reads.all fun x => match x.2 with | some k => decide (k < r.length) | none => true) = true →
    Given a r.reverse σ w (conv r.length reads) → Given a r σ w reads
  | [], _, _ => trivial
  | (t, none) :: rs, h, hg => by
    simp only [List.all_cons, Bool.true_and] at h
    exact ⟨hg.1, given_conv rs h hg.2⟩
  | (t, some k) :: rs, h, hg => by
    simp only [List.all_cons, Bool.and_eq_true, decide_eq_true_eq] at h
    refine ⟨?_, given_conv rs h.2 hg.2⟩
    have h1 : (r.reverse.getD (r.length - 1 - k) (.val undef)).p (σ.tmps.getD t undef) w := hg.1
    rw [List.getD_eq_getElem?_getD, List.getElem?_reverse (by omega)] at h1
    have : r.length - 1 - (r.length - 1 - k) = k := by omega
    rw [this] at h1
    rw [List.getD_eq_getElem?_getD]; exact h1

def LinR (P : Program) (ops : Array Oper) (a : Act) (w : World) (R : List Sp → Prop) : Nat → Nat → List Sp → Prop
  | 0, _, r => R r.reverse
  | f + 1, i, r => ∃ o reads s, ops[i]? = some o ∧ readsOk ops i (conv i reads) = true ∧ (reads.all fun x => match x.2 with | some k => decide (k < i) | none => true) = true ∧
      opOk P ops a w r o reads s ∧ LinR P ops a w R f (i + 1) (s :: r)

theorem lin_of_r {P : Program} {ops : Array Oper} {a : Act} {w : World} {R : List Sp → Prop} : ∀ (f : Nat) (r : List Sp), LinR P ops a w R f r.length r → Lin P ops a w R f r.reverse
  | 0, r, h => h
  | f + 1, r, h => by
    obtain ⟨o, reads, s, h1, h2, h3, h4, h5⟩ := h
    refine ⟨o, conv r.length reads, s, by simpa using h1, by simpa using h2, fun σ w' hx hg => h4 σ w' hx (given_conv reads h3 hg), ?_⟩
    have := lin_of_r f (s :: r) h5
    simpa using this

theorem LinR.step {P : Program} {ops : Array Oper} {a : Act} {w : World} {R : List Sp → Prop} {f i : Nat} {r : List Sp} {o : Oper} (reads : List (Tmp × Option Nat)) {s : Sp} (h1 : ops[i]? = some o)
    (h2 : (readsOk ops i (conv i reads) && reads.all fun x => match x.2 with | some k => decide (k < i) | none => true) = true) (h4 : opOk P ops a w r o reads s) (h5 : LinR P ops a w R f (i + 1) (s :: r)) :
    LinR P ops a w R (f + 1) i r := by
  rw [Bool.and_eq_true] at h2
  exact ⟨o, reads, s, h1, h2.1, h2.2, h4, h5⟩

theorem wp_region_linR {P : Program} {id : Nat} {ops : Array Oper} {a : Act} {w : World} {Q : Exit → Act → World → Prop} (hm : P.follows .mixedOrders = true) (hu : dstsOk ops a.tmps.size = true)
    (h : LinR P ops a w.drew (fun S => ∀ w', Ext w.drew w' → Fin' (Q .normal) w' ops.toList S a) ops.size 0 []) : (Code.region id ops true).wp P Q a w :=
  wp_region_lin hm hu (lin_of_r ops.size [] h)
theorem wp_region_seqR {P : Program} {id : Nat} {ops : Array Oper} {a : Act} {w : World} {Q : Exit → Act → World → Prop} (hu : dstsOk ops a.tmps.size = true)
    (h : LinR P ops a w (fun S => ∀ w', Ext w w' → Fin' (Q .normal) w' ops.toList S a) ops.size 0 []) : (Code.region id ops false).wp P Q a w :=
  wp_region_seq hu (lin_of_r ops.size [] h)
end Go.Proofs.Ytgbhbifdfcfamaa
namespace Go.Proofs.Ytgbhbifdfcfamaa
set_option maxRecDepth 100000
open Go.RowKit

def Runs (P : Program) (o : Oper) (ρ : Operand → Value) (w : World) (v : Value) : Prop := (execOp ρ o).run P w = .ok (.value v) w

theorem wpList_runs {P : Program} {ops : Array Oper} {rest : List Oper} {o : Oper} {a : Act} {Q : Exit → Act → World → Prop} {w : World} {v : Value} (hgd : o.guard = none) (h : Runs P o a.eval w v)
    (hr : wpList P ops Q rest (a.put o.dst v) w) : wpList P ops Q (o :: rest) a w :=
  wpList_plain hgd fun K hK => by unfold Oper.wp; rw [h]; exact hK _ _ hr

/-- A slice type whose elements take one cell. -/
structure El (P : Program) (t e : TypeId) (z : Value) (bytes : Nat) : Prop where
  hu : P.underlying t = some (.slice e)
  info : ∃ i : TypeInfo, P.info? e = some i ∧ i.zero = some z ∧ i.size = 1 ∧ i.bytes = bytes
  one : z.cells.size = 1
  pos : 0 < bytes

section
variable {P : Program} {o : Oper} {ρ : Operand → Value} {w : World} {v : Value} {xs : List Value} {t e : TypeId} {z : Value} {bytes : Nat}

theorem runs_len (E : El P t e z bytes) (x : Operand) (ho : o.op = .call { callee := .builtin .len, args := #[x], argTypes := #[t] }) (hv : ρ x = v) (h : Sl w v xs) :
    Runs P o ρ w (.int .i64 xs.length) := by
  obtain ⟨A, c, rfl, _⟩ := h
  have hu := E.hu
  unfold Runs execOp
  simp [ho, resolve, invoke, builtin, hv, run_len_slice, go_sem, hu]

/-- v[lo:hi] -/
theorem runs_cut_own (E : El P t e z bytes) (x : Operand) (lo hi : Option Operand) (ho : o.op = .slice t x lo hi none) (hv : ρ x = v) (h : Sl w v xs) (i j : Nat)
    (hlo : (∃ y, lo = some y ∧ ρ y = .int .i64 i) ∨ lo = none ∧ i = 0) (hhi : (∃ y, hi = some y ∧ ρ y = .int .i64 j) ∨ hi = none ∧ j = xs.length) (hij : i ≤ j) (hj : j ≤ xs.length) :
    ∃ v', Runs P o ρ w v' ∧ Sl w v' ((xs.take j).drop i) ∧ ∀ k, v'.ownBlock = some k → v.ownBlock = some k := by
  obtain ⟨A, c, rfl, h1, h2, h3⟩ := h
  obtain ⟨i0, hi0, _, hsz, _⟩ := E.info
  have hu := E.hu
  have key : Sl w (.slice (if c = i then A else A.map (·.add (i * 1))) (j - i) (c - i)) ((xs.take j).drop i) := by
    have hl : ((xs.take j).drop i).length = j - i := by simp; omega
    refine ⟨_, c - i, by rw [hl], by rw [hl]; omega, by omega, fun k u hk => ?_⟩
    rw [List.getElem?_drop, List.getElem?_take] at hk
    split at hk
    · obtain ⟨ad, rfl, hc⟩ := h3 _ u hk
      have hlt : i + k < xs.length := (List.getElem?_eq_some_iff.1 hk).1
      refine ⟨ad.add i, by rw [if_neg (by omega)]; simp, by rw [add_add']; exact hc⟩
    · cases hk
  refine ⟨_, ?_, key, fun k hk => ?_⟩
  rotate_left
  · by_cases hci : c = i
    · rw [if_pos hci] at hk; cases A <;> exact hk
    · rw [if_neg hci] at hk
      cases A with
      | none => exact hk
      | some ad =>
        have : (Option.map (fun x : Addr => x.add (i * 1)) (some ad)) = some (ad.add (i * 1)) := rfl
        rw [this] at hk
        have h4 : some (ad.add (i * 1)).block = some k := hk
        rw [blk_add] at h4; exact h4
  unfold Runs execOp
  have b1 : ∀ (y : Nat) (code : BoundsCode) (n : Nat), n ≤ y → (Instr.sliceBound (.int .i64 (n : Int)) y code).run P w = .ok n w := fun y code n hn => by
    simp [Instr.sliceBound, go_sem]; omega
  rcases hlo with ⟨y, rfl, hy⟩ | ⟨rfl, rfl⟩ <;> rcases hhi with ⟨y', rfl, hy'⟩ | ⟨rfl, rfl⟩
  · simp [ho, hv, hy, hy', Instr.sliceAt, Instr.slice, run_underlying hu, Instr.sliceBounds, sizeOf, typeInfo, hi0, hsz, b1 c .sliceAcap j (by omega), b1 j .sliceB i hij]
  · simp [ho, hv, hy, Instr.sliceAt, Instr.slice, run_underlying hu, Instr.sliceBounds, sizeOf, typeInfo, hi0, hsz, b1 xs.length .sliceB i hij]
  · simp [ho, hv, hy', Instr.sliceAt, Instr.slice, run_underlying hu, Instr.sliceBounds, sizeOf, typeInfo, hi0, b1 c .sliceAcap j (by omega)]
  · simp [ho, hv, Instr.sliceAt, Instr.slice, run_underlying hu, Instr.sliceBounds, sizeOf, typeInfo, hi0]

theorem runs_cut (E : El P t e z bytes) (x : Operand) (lo hi : Option Operand) (ho : o.op = .slice t x lo hi none) (hv : ρ x = v) (h : Sl w v xs) (i j : Nat)
    (hlo : (∃ y, lo = some y ∧ ρ y = .int .i64 i) ∨ lo = none ∧ i = 0) (hhi : (∃ y, hi = some y ∧ ρ y = .int .i64 j) ∨ hi = none ∧ j = xs.length) (hij : i ≤ j) (hj : j ≤ xs.length) :
    ∃ v', Runs P o ρ w v' ∧ Sl w v' ((xs.take j).drop i) := by
  obtain ⟨v', h1, h2, _⟩ := runs_cut_own E x lo hi ho hv h i j hlo hhi hij hj
  exact ⟨v', h1, h2⟩
/-- &v[i] -/
theorem runs_idx (E : El P t e z bytes) (x y : Operand) (ho : o.op = .indexAddr t x y) (hv : ρ x = v) (h : Sl w v xs) (i : Nat) (hy : ρ y = .int .i64 i) (hi : i < xs.length) :
    ∃ ad, Runs P o ρ w (.pointer (some ad)) ∧ w.cell? ad = some xs[i] := by
  obtain ⟨A, c, rfl, h1, h2, h3⟩ := h
  obtain ⟨i0, hi0, _, hsz, _⟩ := E.info
  have hu := E.hu
  obtain ⟨ad, rfl, hc⟩ := h3 i _ (List.getElem?_eq_getElem hi)
  refine ⟨_, ?_, hc⟩
  unfold Runs execOp
  simp [ho, hv, hy, Instr.indexAt, run_underlying hu, sizeOf, typeInfo, hi0, hsz, go_sem, hi]

/-- v == nil -/
theorem runs_isnil (E : El P t e z bytes) (x : Operand) (n c : Nat) (ho : o.op = .binOp .eql t x (.const (.slice none n c)) t) (hc : ρ (.const (.slice none n c)) = .slice none n c) (hv : ρ x = v) (h : Sl w v xs) :
    ∃ b, Runs P o ρ w (.bool b) ∧ (b = true → xs = [] ∧ ∃ n' c', v = .slice none n' c') := by
  obtain ⟨A, c, rfl, h1, h2, h3⟩ := h
  refine ⟨A.isNone, ?_, fun hb => ?_⟩
  · unfold Runs execOp
    simp [ho, hv, hc, eqGuard, Lib.run_eql_slice_nil _ _ _ _ _ _ _ _ E.hu]
  · have : A = none := by simpa using hb
    subst this
    refine ⟨?_, _, _, rfl⟩
    cases xs with
    | nil => rfl
    | cons u r => obtain ⟨ad, e, _⟩ := h3 0 u rfl; cases e
end

/-! ### The same as steps of a walk -/
section
variable {P : Program} {ops : Array Oper} {rest : List Oper} {o : Oper} {a : Act} {Q : Exit → Act → World → Prop} {w : World} {v : Value} {xs : List Value} {t e : TypeId} {z : Value} {bytes : Nat}
theorem w_len (E : El P t e z bytes) (x : Operand) (hgd : o.guard = none) (ho : o.op = .call { callee := .builtin .len, args := #[x], argTypes := #[t] }) (hv : a.eval x = v) (h : Sl w v xs)
    (k : wpList P ops Q rest (a.put o.dst (.int .i64 xs.length)) w) : wpList P ops Q (o :: rest) a w :=
  wpList_runs hgd (runs_len E x ho hv h) k
theorem w_isnil (E : El P t e z bytes) (x : Operand) (n c : Nat) (hgd : o.guard = none) (ho : o.op = .binOp .eql t x (.const (.slice none n c)) t) (hv : a.eval x = v) (h : Sl w v xs)
    (k : ∀ b, (b = true → xs = [] ∧ ∃ n' c', v = .slice none n' c') → wpList P ops Q rest (a.put o.dst (.bool b)) w) : wpList P ops Q (o :: rest) a w := by
  obtain ⟨b, hr, hb⟩ := runs_isnil E x n c ho rfl hv h
  exact wpList_runs hgd hr (k b hb)
theorem w_cut (E : El P t e z bytes) (x y y' : Operand) (i j : Nat) (hgd : o.guard = none) (ho : o.op = .slice t x (some y) (some y') none) (hv : a.eval x = v) (h : Sl w v xs) (hy : a.eval y = .int .i64 i) (hy' : a.eval y' = .int .i64 j) (hij : i ≤ j) (hj : j ≤ xs.length)
    (k : ∀ v', Sl w v' ((xs.take j).drop i) → wpList P ops Q rest (a.put o.dst v') w) : wpList P ops Q (o :: rest) a w := by
  obtain ⟨v', hr, hb⟩ := runs_cut E x _ _ ho hv h i j (.inl ⟨y, rfl, hy⟩) (.inl ⟨y', rfl, hy'⟩) hij hj
  exact wpList_runs hgd hr (k v' hb)
theorem w_from (E : El P t e z bytes) (x y : Operand) (i : Nat) (hgd : o.guard = none) (ho : o.op = .slice t x (some y) none none) (hv : a.eval x = v) (h : Sl w v xs) (hy : a.eval y = .int .i64 i) (hj : i ≤ xs.length)
    (k : ∀ v', Sl w v' (xs.drop i) → wpList P ops Q rest (a.put o.dst v') w) : wpList P ops Q (o :: rest) a w := by
  obtain ⟨v', hr, hb⟩ := runs_cut E x _ _ ho hv h i xs.length (.inl ⟨y, rfl, hy⟩) (.inr ⟨rfl, rfl⟩) hj (Nat.le_refl _)
  exact wpList_runs hgd hr (k v' (by simpa using hb))
theorem w_to (E : El P t e z bytes) (x y' : Operand) (j : Nat) (hgd : o.guard = none) (ho : o.op = .slice t x none (some y') none) (hv : a.eval x = v) (h : Sl w v xs) (hy' : a.eval y' = .int .i64 j) (hj : j ≤ xs.length)
    (k : ∀ v', Sl w v' (xs.take j) → wpList P ops Q rest (a.put o.dst v') w) : wpList P ops Q (o :: rest) a w := by
  obtain ⟨v', hr, hb⟩ := runs_cut E x _ _ ho hv h 0 j (.inr ⟨rfl, rfl⟩) (.inl ⟨y', rfl, hy'⟩) (Nat.zero_le _) hj
  exact wpList_runs hgd hr (k v' (by simpa using hb))
theorem w_idx (E : El P t e z bytes) (x y : Operand) (i : Nat) (hgd : o.guard = none) (ho : o.op = .indexAddr t x y) (hv : a.eval x = v) (h : Sl w v xs) (hy : a.eval y = .int .i64 i) (hi : i < xs.length)
    (k : ∀ ad : Addr, w.cell? ad = some xs[i] → wpList P ops Q rest (a.put o.dst (.pointer (some ad))) w) : wpList P ops Q (o :: rest) a w := by
  obtain ⟨ad, hr, hc⟩ := runs_idx E x y ho hv h i hy hi
  exact wpList_runs hgd hr (k ad hc)
end
/-- What a contract promises, kept from the walk. -/
def Keep (R : Ending → World → Prop) : Ending → World → Prop := R
theorem Keep.intro {R : Ending → World → Prop} {e : Ending} {w : World} (h : R e w) : Keep R e w := h
theorem calls_keep {P : Program} {f : FuncId} {args : Array Value} {w : World} {R : Ending → World → Prop} (h : Calls P f args w (Keep R)) : Calls P f args w R := h
theorem hide_ {p : Prop} (h : p) : Hid p := h
section
variable {P : Program} {ops : Array Oper} {a : Act} {w : World} {r : List Sp} {o : Oper} {s : Sp} {reads : List (Tmp × Option Nat)}

theorem wanted_none (hgd : o.guard = none) (f : Nat → Option Bool) : Region.wanted o f = true := by simp [Region.wanted, hgd]

theorem op_runs (hgd : o.guard = none) (h : ∀ (σ : Act) (w' : World), Ext w w' → Given a r σ w' reads → ∃ v, Runs P o σ.eval w' v ∧ s.p v w') : opOk P ops a w r o reads s := by
  intro σ w' hx hg
  rw [if_pos (wanted_none hgd _)]
  obtain ⟨v, hr, hs⟩ := h σ w' hx hg
  unfold Oper.wp
  rw [show (execOp σ.eval o).run P w' = .ok (.value v) w' from hr]
  exact ⟨v, rfl, Ext.refl _, hs⟩

theorem op_copy (t : Tmp) (k : Nat) (s : Sp) (hgd : o.guard = none) (ho : o.op = .move (.tmp t) ∨ o.op = .assign (.tmp t)) (hs : r.getD k (.val undef) = s) : opOk P ops a w r o [(t, some k)] s := by
  refine op_runs hgd fun σ w' hx hg => ⟨σ.tmps.getD t undef, ?_, by subst hs; exact hg.1⟩
  unfold Runs execOp
  rcases ho with ho | ho <;> simp [ho, Act.eval]

theorem op_out (t : Tmp) (v : Value) (hgd : o.guard = none) (ho : o.op = .move (.tmp t) ∨ o.op = .assign (.tmp t)) (hv : a.tmps.getD t undef = v) : opOk P ops a w r o [(t, none)] (.val v) := by
  refine op_runs hgd fun σ w' hx hg => ⟨σ.tmps.getD t undef, ?_, by subst hv; exact hg.1⟩
  unfold Runs execOp
  rcases ho with ho | ho <;> simp [ho, Act.eval]

theorem op_const (c : Value) (hgd : o.guard = none) (ho : o.op = .move (.const c) ∨ o.op = .assign (.const c)) : opOk P ops a w r o [] (.val c) := by
  refine op_runs hgd fun σ w' hx hg => ⟨c, ?_, rfl⟩
  unfold Runs execOp
  rcases ho with ho | ho <;> simp [ho, Act.eval]

theorem given_left : ∀ (x y : List (Tmp × Option Nat)) {σ : Act} {w : World}, Given a r σ w (x ++ y) → Given a r σ w x
  | [], _, _, _, _ => trivial
  | (_, none) :: x, y, _, _, h => ⟨h.1, given_left x y h.2⟩
  | (_, some _) :: x, y, _, _, h => ⟨h.1, given_left x y h.2⟩
theorem given_right : ∀ (x y : List (Tmp × Option Nat)) {σ : Act} {w : World}, Given a r σ w (x ++ y) → Given a r σ w y
  | [], _, _, _, h => h
  | (_, none) :: x, y, _, _, h => given_right x y h.2
  | (_, some _) :: x, y, _, _, h => given_right x y h.2

theorem bool_ne_undef (b : Bool) : (Value.bool b) ≠ undef := by simp [undef]

theorem yielded_of {g : Nat} {t : Tmp} {b : Bool} {tmps : Array Value} (hd : (ops[g]?).bind (·.dst) = some t) (hv : tmps.getD t undef = .bool b) : yielded ops tmps g = some b := by
  unfold yielded
  rw [hd]
  simp only [Option.bind_some]
  cases hx : tmps[t]? with
  | none => rw [Array.getD_eq_getD_getElem?, hx] at hv; exact absurd hv.symm (bool_ne_undef b)
  | some u => rw [Array.getD_eq_getD_getElem?, hx] at hv; simp only [Option.getD_some] at hv; subst hv; rfl

/-- An operation whose guard says yes. -/
theorem op_yes (g t k : Nat) (b : Bool) (hgd : o.guard = some (g, b)) (hd : (ops[g]?).bind (·.dst) = some t) (hb : r.getD k (.val undef) = .val (.bool b))
    (h : opOk P ops a w r { o with guard := none } reads s) : opOk P ops a w r o (reads ++ [(t, some k)]) s := by
  intro σ w' hx hg
  have h1 := h σ w' hx (given_left _ _ hg)
  have h2 := (given_right _ _ hg).1
  rw [hb] at h2
  have hy := yielded_of (ops := ops) hd h2
  rw [if_pos (wanted_none rfl _)] at h1
  rw [if_pos (by simp [Region.wanted, hgd, hy])]
  exact h1

/-- An operation whose guard says no. -/
theorem op_no (g t k : Nat) (b : Bool) (hgd : o.guard = some (g, b)) (hd : (ops[g]?).bind (·.dst) = some t) (hb : r.getD k (.val undef) = .val (.bool (!b))) : opOk P ops a w r o (reads ++ [(t, some k)]) (.val undef) := by
  intro σ w' hx hg
  have h2 := (given_right _ _ hg).1
  rw [hb] at h2
  have hy := yielded_of (ops := ops) hd h2
  rw [if_neg (by simp [Region.wanted, hgd, hy])]
  rfl
/-- A guard that itself was not reached. -/
theorem op_no' (g t k : Nat) (b : Bool) (hgd : o.guard = some (g, b)) (hd : (ops[g]?).bind (·.dst) = some t) (hb : r.getD k (.val undef) = .val undef) : opOk P ops a w r o (reads ++ [(t, some k)]) (.val undef) := by
  intro σ w' hx hg
  have h2 := (given_right _ _ hg).1
  rw [hb] at h2
  have hy : ∀ c, yielded ops σ.tmps g ≠ some c := fun c hc => by
    unfold yielded at hc
    rw [hd] at hc
    simp only [Option.bind_some] at hc
    cases hx : σ.tmps[t]? with
    | none => rw [hx] at hc; cases hc
    | some u =>
      have h3 : σ.tmps.getD t undef = u := by rw [Array.getD_eq_getD_getElem?, hx]; rfl
      have h4 : u = undef := by rw [← h3]; exact h2
      rw [hx, h4] at hc; simp [undef] at hc
  rw [if_neg (by
    simp only [Region.wanted, hgd]
    cases hc : yielded ops σ.tmps g with
    | none => simp
    | some c => exact absurd hc (hy c))]
  rfl

theorem op_calls (f : FuncId) (xs : Array Operand) (tys : Array TypeId) (args : Act → Array Value) (hgd : o.guard = none) (ho : o.op = .call { callee := .value (.func f), args := xs, argTypes := tys })
    (hc : ∀ (ys : Array Value) (w : World), (callFunc f ys).run P w = .ok (.enter f ys) w)
    (h : ∀ (σ : Act) (w' : World), Ext w w' → Given a r σ w' reads → xs.map σ.eval = args σ ∧ Calls P f (args σ) w' fun e w'' => ∃ v, e = .returned v ∧ Ext w' w'' ∧ s.p v w'') : opOk P ops a w r o reads s := by
  intro σ w' hx hg
  rw [if_pos (wanted_none hgd _)]
  obtain ⟨ha, h⟩ := h σ w' hx hg
  unfold Oper.wp
  have hr : (execOp σ.eval o).run P w' = .ok (.enter f (args σ)) w' := by
    obtain ⟨dst, op, type, pos, after, guard⟩ := o
    simp only at ho
    subst ho
    have he : execOp σ.eval { dst, op := .call { callee := .value (.func f), args := xs, argTypes := tys }, type, pos, after, guard } = callFunc f (#[] ++ xs.map σ.eval ++ #[]) := rfl
    rw [he, Array.empty_append, Array.append_empty, ha]; exact hc _ _
  rw [hr]
  refine Calls.mono h fun e w'' he => ?_
  obtain ⟨v, rfl, hx', hs⟩ := he
  exact ⟨v, rfl, hx', hs⟩
end

theorem runs_pick_t {P : Program} {o : Oper} {ρ : Operand → Value} {w : World} {v : Value} (c x y : Operand) (ho : o.op = .pick c x y) (hc : ρ c = .bool true) (hv : ρ x = v) : Runs P o ρ w v := by
  subst hv
  unfold Runs execOp
  simp [ho, hc, asBool]
theorem runs_pick_f {P : Program} {o : Oper} {ρ : Operand → Value} {w : World} {v : Value} (c x y : Operand) (ho : o.op = .pick c x y) (hc : ρ c = .bool false) (hv : ρ y = v) : Runs P o ρ w v := by
  subst hv
  unfold Runs execOp
  simp [ho, hc, asBool]
/-- In a region without a draw: an operation whose guard says yes. -/
theorem w_yes {P : Program} {ops : Array Oper} {rest : List Oper} {o : Oper} {a : Act} {Q : Exit → Act → World → Prop} {w : World} (g t : Nat) (b : Bool) (hgd : o.guard = some (g, b)) (hd : (ops[g]?).bind (·.dst) = some t)
    (hv : a.tmps.getD t undef = .bool b) (h : wpList P ops Q (⟨o.dst, o.op, o.type, o.pos, o.after, none⟩ :: rest) a w) : wpList P ops Q (o :: rest) a w := by
  have hy := yielded_of (ops := ops) hd hv
  unfold wpList at h ⊢
  rw [if_pos (by simp [Region.wanted])] at h
  rw [if_pos (by simp [Region.wanted, hgd, hy])]
  exact h

/-- A pointer to a cell that holds u. -/
def Sp.ptr (u : Value) : Sp := .any (fun v w => ∃ ad : Addr, v = .pointer (some ad) ∧ w.cell? ad = some u) fun _ _ _ ⟨ad, h1, h2⟩ he => ⟨ad, h1, he.cell h2⟩
theorem runs_load {P : Program} {o : Oper} {ρ : Operand → Value} {w : World} {v : Value} {ty : TypeId} {k : IntKind} {z : Int} (x : Operand) (ho : o.op = .load ty x) (hu : P.underlying ty = some (.int k)) (hv : ρ x = v) (h : (Sp.ptr (.int k z)).p v w) : Runs P o ρ w (.int k z) := by
  obtain ⟨ad, rfl, hc⟩ := h
  unfold Runs execOp
  have hagg : ∀ w : World, (isAgg ty).run P w = .ok false w := fun w => by simp [isAgg, run_underlying hu]
  simp [ho, hv, go_sem, hagg, hc]
theorem fill_ok : ∀ (us : List Value) (k : Nat) (cells : Array Value), (∀ u ∈ us, u.cells = #[u]) → k + us.length = cells.size →
    Instr.fill (fun i => some (i * 1, 1)) cells ((us.zipIdx k).map fun p => (p.2, p.1)) = some (cells.toList.take k ++ us).toArray
  | [], k, cells, _, h => by
    have : cells.toList.length ≤ k := by simp at h ⊢; omega
    simp [Instr.fill, List.take_of_length_le this]
  | u :: us, k, cells, h1, h => by
    have hu := h1 u (List.mem_cons_self ..)
    have hk : k < cells.size := by simp at h; omega
    have ih := fill_ok us (k + 1) (cells.setIfInBounds k u) (fun x hx => h1 x (List.mem_cons_of_mem _ hx)) (by simp at h ⊢; omega)
    simp only [List.zipIdx_cons, List.map_cons, Instr.fill, hu, Nat.mul_one]
    rw [if_neg (by simp; omega)]
    have hz : (#[u].zipIdx.foldl (fun cs (x : Value × Nat) => cs.setIfInBounds (k + x.2) x.1) cells) = cells.setIfInBounds k u := by simp [Array.zipIdx]
    rw [show (fun (cs : Array Value) (x : Value × Nat) => match x with | (c, j) => cs.setIfInBounds (k + j) c) = fun cs (x : Value × Nat) => cs.setIfInBounds (k + x.2) x.1 from rfl, hz]
    simp only [Nat.mul_one] at ih
    rw [ih]
    congr 2
    rw [Array.toList_setIfInBounds, List.take_set, List.take_succ_eq_append_getElem (by simpa using hk), List.set_append_right _ _ (by simp; omega)]
    have hl2 : k - min k cells.size = 0 := by omega
    simp [hl2]

section
variable {P : Program} {ops : Array Oper} {rest : List Oper} {o : Oper} {a : Act} {Q : Exit → Act → World → Prop} {w : World} {t e : TypeId} {z : Value} {bytes : Nat}
theorem run_buildSlice (E : El P t e z bytes) (us : List Value) (arr : Array (Nat × Value)) (harr : arr.toList = (us.zipIdx 0).map fun p => (p.2, p.1)) (hone : ∀ u ∈ us, u.cells = #[u]) (n : Nat) (hn : n = us.length) (hs : n ≤ 1000000) (w : World) :
    (Instr.buildSlice t n arr).run P w = .ok (.slice (some ⟨w.heap.size, 0, none⟩) n n) (w.alloc (.cells us.toArray e)) := by
  subst hn
  obtain ⟨i0, hi0, hz, hsz, _⟩ := E.info
  have hu := E.hu
  have hf := fun (zs : Array Value) (hzs : us.length = zs.size) => fill_ok us 0 zs hone (by simpa using hzs)
  simp only [List.take_zero, List.nil_append] at hf
  simp only [Nat.mul_one] at hf
  unfold Instr.buildSlice
  by_cases h0 : us.length = 0
  · simp [run_underlying hu, sizeOf, typeInfo, hi0, hsz, h0]
    rw [harr, hf _ (by simp [h0])]
    simp [newRow]
  · simp [run_underlying hu, sizeOf, typeInfo, hi0, hsz, h0, show ¬ 16777216 < us.length by omega, zeroValue, hz]
    rw [harr, hf _ (by simp)]
    simp [newRow]
theorem w_build (E : El P t e z bytes) (n : Nat) (ps : Array (Nat × Operand)) (us : List Value) (hgd : o.guard = none) (ho : o.op = .buildSlice t n ps) (hps : (ps.toList.map fun x => (x.1, a.eval x.2)) = (us.zipIdx 0).map fun p => (p.2, p.1))
    (hone : ∀ u ∈ us, u.cells = #[u]) (hn : n = us.length) (hs : n ≤ 1000000)
    (k : wpList P ops Q rest (a.put o.dst (.slice (some ⟨w.heap.size, 0, none⟩) n n)) (w.alloc (.cells us.toArray e))) : wpList P ops Q (o :: rest) a w := by
  refine wpList_plain hgd fun K hK => ?_
  unfold Oper.wp execOp
  have hr := run_buildSlice (P := P) E us (ps.map fun x => (x.1, a.eval x.2)) (by rw [Array.toList_map]; exact hps) hone n hn hs w
  simp only [ho]
  rw [show (Instr.buildSlice t n (ps.map fun (i, x) => (i, a.eval x))) = Instr.buildSlice t n (ps.map fun x => (x.1, a.eval x.2)) from rfl]
  simp [hr]
  exact hK _ _ k
end
theorem Sl.oneCell {w : World} {v : Value} {xs : List Value} (h : Sl w v xs) : v.cells = #[v] := by
  obtain ⟨A, c, rfl, _⟩ := h; rfl
theorem one1 {u : Value} (h : u.cells = #[u]) : ∀ x ∈ [u], x.cells = #[x] := by intro x hx; simp at hx; subst hx; exact h
theorem one2 {u u' : Value} (h : u.cells = #[u]) (h' : u'.cells = #[u']) : ∀ x ∈ [u, u'], x.cells = #[x] := by intro x hx; simp at hx; rcases hx with rfl | rfl <;> assumption
theorem one3 {u u' u2 : Value} (h : u.cells = #[u]) (h' : u'.cells = #[u']) (h2 : u2.cells = #[u2]) : ∀ x ∈ [u, u', u2], x.cells = #[x] := by intro x hx; simp at hx; rcases hx with rfl | rfl | rfl <;> assumption

/-- A new row that holds just us is owned. -/
theorem own_new {w : World} {e : TypeId} (us : List Value) (hs : us.length ≤ 1000000) : (w.alloc (.cells us.toArray e)).ownsRow w.heap.size e 1 (.slice (some ⟨w.heap.size, 0, none⟩) us.length us.length) us.length us := by
  refine ⟨by simp, .inr ⟨w.heap.size, us.length, us.toArray, rfl, Nat.le_refl _, heap_alloc_new w _, Nat.le_refl _, by simp only [maxLen]; omega, by simp, by simp⟩⟩

section
variable {P : Program} {ops : Array Oper} {rest : List Oper} {o : Oper} {a : Act} {Q : Exit → Act → World → Prop} {w : World} {t e : TypeId} {z : Value} {bytes : Nat}
/-- A list written out: the world and the slice under new names. -/
theorem w_new (E : El P t e z bytes) {n : Nat} {ps : Array (Nat × Operand)} (us : List Value) (hgd : o.guard = none) (ho : o.op = .buildSlice t n ps) (hps : (ps.toList.map fun x => (x.1, a.eval x.2)) = (us.zipIdx 0).map fun p => (p.2, p.1))
    (hone : ∀ u ∈ us, u.cells = #[u]) (hn : n = us.length) (hs : n ≤ 1000000)
    (k : ∀ v' w', Ext w w' → w'.ownsRow w.heap.size e 1 v' us.length us → wpList P ops Q rest (a.put o.dst v') w') : wpList P ops Q (o :: rest) a w := by
  refine w_build E n ps us hgd ho hps hone hn hs (k _ _ ((Ext.refl _).alloc _) ?_)
  subst hn; exact own_new us hs
end
theorem add_zero_off (g i : Nat) : (⟨g, 0, none⟩ : Addr).add i = ⟨g, i, none⟩ := by unfold Addr.add; split <;> simp_all

section
variable {w : World} {base : Nat} {e : TypeId} {v : Value} {xs : List Value}
/-- The address of a place of an owned slice. -/
theorem own_at (h : w.ownsRow base e 1 v xs.length xs) {i : Nat} (hi : i < xs.length) :
    ∃ g cap, v = .slice (some ⟨g, 0, none⟩) xs.length cap ∧ base ≤ g ∧ g < w.heap.size ∧ w.cell? ⟨g, i, none⟩ = some xs[i] ∧ w.frozen? ⟨g, i, none⟩ = false ∧ ∀ u, (w.setCell ⟨g, i, none⟩ u).ownsRow base e 1 v (xs.set i u).length (xs.set i u) := by
  have h' := h
  obtain ⟨hl, hn | ⟨g, cap, cur, hv, hb, hg, h1, h2, hs, ht⟩⟩ := h
  · obtain ⟨_, h0⟩ := hn; omega
  · have hgl : g < w.heap.size := (Array.getElem?_eq_some_iff.1 hg).1
    have hadd := add_zero_off g i
    refine ⟨g, cap, hv, hb, hgl, ?_, ?_, fun u => ?_⟩
    · have := h'.cells (g := g) (by rw [hv]; rfl) i _ (List.getElem?_eq_getElem hi)
      simpa [hadd] using this
    · unfold World.frozen?; rw [hg]; simp
    · refine ⟨by simp, .inr ⟨g, cap, cur.setIfInBounds i u, by rw [List.length_set]; exact hv, hb, ?_, by rw [List.length_set]; exact h1, h2, by simpa using hs, ?_⟩⟩
      · simp [World.setCell, Array.getElem?_modify, hg]
      · simp only [Nat.mul_one, List.length_set] at ht ⊢
        rw [Array.toList_setIfInBounds, List.take_set, ht]
end

section
variable {P : Program} {ops : Array Oper} {rest : List Oper} {o : Oper} {a : Act} {Q : Exit → Act → World → Prop} {w : World} {t e : TypeId} {z : Value} {bytes : Nat}
theorem run_store_one {i0 : TypeInfo} (hi0 : P.info? e = some i0) (hs : i0.size = 1) {g i : Nat} {u u0 : Value} (hu : u.cells = #[u]) (h1 : u.oneCell' = true) (hc : w.cell? ⟨g, i, none⟩ = some u0) (hf : w.frozen? ⟨g, i, none⟩ = false) :
    (Instr.storeAt e (.pointer (some ⟨g, i, none⟩)) u).run P w = .ok () (w.setCell ⟨g, i, none⟩ u) := by
  have h := run_storeCells_cells (P := P) g i [u] 0 w (fun j hj => by
    obtain rfl : j = 0 := by simpa using hj
    simp [hc]) (fun j hj => by
    obtain rfl : j = 0 := by simpa using hj
    simpa using hf) (by simpa using h1)
  unfold Instr.storeAt storeVar
  rw [hu]
  simp only [Instr.sureAddr, Sem.run_bind, Sem.run_pure, Result.andThen_ok, sizeOf, typeInfo]
  simpa [hi0, hs, World.setCells] using h

theorem runs_oidx (E : El P t e z bytes) {ρ : Operand → Value} (x y : Operand) {v : Value} {g n c i : Nat} (ho : o.op = .indexAddr t x y) (hv : ρ x = v) (hv' : v = .slice (some ⟨g, 0, none⟩) n c) (hy : ρ y = .int .i64 i) (hi : i < n) :
    Runs P o ρ w (.pointer (some ⟨g, i, none⟩)) := by
  subst hv'
  obtain ⟨i0, hi0, _, hsz, _⟩ := E.info
  have hu := E.hu
  unfold Runs execOp
  simp [ho, hv, hy, Instr.indexAt, run_underlying hu, sizeOf, typeInfo, hi0, hsz, go_sem, hi]
/-- v[i] = u, where the call owns v: the index and the store. -/
theorem w_oidx (E : El P t e z bytes) (x y : Operand) {base : Nat} {v : Value} {xs : List Value} {i : Nat} (hgd : o.guard = none) (ho : o.op = .indexAddr t x y) (hv : a.eval x = v) (hown : w.ownsRow base e 1 v xs.length xs) (hy : a.eval y = .int .i64 i) (hi : i < xs.length)
    (k : ∀ g, v.ownBlock = some g → base ≤ g → g < w.heap.size → wpList P ops Q rest (a.put o.dst (.pointer (some ⟨g, i, none⟩))) w) : wpList P ops Q (o :: rest) a w := by
  obtain ⟨g, cap, hv', hb, hg, hc, hf, _⟩ := own_at hown hi
  exact wpList_runs hgd (runs_oidx E x y ho hv hv' hy hi) (k g (by rw [hv']; rfl) hb hg)
theorem w_ostore (E : El P t e z bytes) (x y : Operand) {base : Nat} {v u : Value} {xs : List Value} {g i : Nat} (hgd : o.guard = none) (ho : o.op = .store e x y) (hd : o.dst = none) (hx : a.eval x = .pointer (some ⟨g, i, none⟩)) (hy : a.eval y = u) (hu : u.cells = #[u]) (h1 : u.oneCell' = true)
    (hown : w.ownsRow base e 1 v xs.length xs) (hg : v.ownBlock = some g) (hi : i < xs.length)
    (k : ∀ w', Below base w w' → w'.ownsRow base e 1 v (xs.set i u).length (xs.set i u) → wpList P ops Q rest a w') : wpList P ops Q (o :: rest) a w := by
  obtain ⟨g', cap, hv', hb, hgs, hc, hf, hset⟩ := own_at hown hi
  obtain rfl : g' = g := by rw [hv'] at hg; simpa [Value.ownBlock] using hg
  obtain ⟨i0, hi0, _, hsz, _⟩ := E.info
  refine wpList_plain hgd fun K hK => ?_
  have hr := run_store_one (P := P) hi0 hsz hu h1 hc hf
  have hk := hK _ _ (k _ ((Below.refl _ _).setCell (p := ⟨g', i, none⟩) hb u) (hset u))
  unfold Oper.wp execOp
  simp only [ho, hx, hy, Sem.run_bind, hr, Result.andThen_ok, Sem.run_pure, Oper.upon, hd, Act.put]
  exact hk
end
theorem runs_aidx {P : Program} {o : Oper} {ρ : Operand → Value} {w : World} {t e : TypeId} {n : Nat} {ad : Addr} {i0 : TypeInfo} (hu : P.underlying t = some (.array n e)) (hi0 : P.info? e = some i0) (hs : i0.size = 1) (x y : Operand) (ho : o.op = .indexAddr t x y)
    (hx : ρ x = .pointer (some ad)) (i : Nat) (hy : ρ y = .int .i64 i) (hi : i < n) : Runs P o ρ w (.pointer (some (ad.add i))) := by
  unfold Runs execOp
  simp [ho, hx, hy, Instr.indexAt, run_underlying hu, sizeOf, typeInfo, hi0, hs, go_sem, hi]
theorem runs_load_at {P : Program} {o : Oper} {ρ : Operand → Value} {w : World} {ty : TypeId} {k : IntKind} {z : Int} {ad : Addr} (x : Operand) (ho : o.op = .load ty x) (hu : P.underlying ty = some (.int k)) (hv : ρ x = .pointer (some ad)) (h : w.cell? ad = some (.int k z)) : Runs P o ρ w (.int k z) :=
  runs_load x ho hu hv ⟨ad, rfl, h⟩

end Go.Proofs.Ytgbhbifdfcfamaa
namespace Go.Proofs.Ytgbhbifdfcfamaa
set_option maxRecDepth 100000
open Go.RowKit

/-- Bytes as values. -/
def u8s (l : List Nat) : List Value := l.map fun n : Nat => Value.int .u8 (n : Int)
theorem u8s_length (l : List Nat) : (u8s l).length = l.length := by simp [u8s]
theorem u8s_append (l m : List Nat) : u8s (l ++ m) = u8s l ++ u8s m := by simp [u8s]
theorem u8s_one (l : List Nat) : ∀ u ∈ u8s l, u.oneCell' = true := by
  intro u hu; simp only [u8s, List.mem_map] at hu; obtain ⟨n, _, rfl⟩ := hu; rfl

/-- v reads as the bytes l. -/
def Byt (w : World) (v : Value) (l : List Nat) : Prop := Sl w v (u8s l)
/-- The call owns v, from block base on, and it holds the bytes l. -/
def OwnB (base : Nat) (w : World) (v : Value) (l : List Nat) : Prop := w.ownsRow base 5 1 v (u8s l).length (u8s l)

theorem Byt.ext {w w' : World} {v : Value} {l : List Nat} (h : Byt w v l) (he : Ext w w') : Byt w' v l := Sl.ext h he
theorem Byt.nil (w : World) : Byt w (.slice none 0 0) [] := Sl.nil w
theorem OwnB.byt {base : Nat} {w : World} {v : Value} {l : List Nat} (h : OwnB base w v l) : Byt w v l := Sl.of_own h
theorem OwnB.ext {base : Nat} {w w' : World} {v : Value} {l : List Nat} (h : OwnB base w v l) (he : Ext w w') : OwnB base w' v l := own_ext h he
theorem OwnB.mono {base B : Nat} {w : World} {v : Value} {l : List Nat} (h : OwnB base w v l) (hB : B ≤ base) : OwnB B w v l := own_mono h hB
theorem OwnB.nil (base : Nat) (w : World) : OwnB base w (.slice none 0 0) [] := own_nil w base _
theorem Byt.len_le {w : World} {v : Value} {l : List Nat} (h : Byt w v l) : l.length ≤ maxLen := by have := Sl.len_le h; rwa [u8s_length] at this

/-- A new slice of one byte. -/
theorem byt_one {w : World} {z : Int} {n : Nat} (hz : z = (n : Int)) : Byt (w.alloc (.cells #[.int .u8 z] 5)) (.slice (some ⟨w.heap.size, 0, none⟩) 1 1) [n] := by
  subst hz
  refine ⟨some ⟨w.heap.size, 0, none⟩, 1, rfl, by simp [u8s], by simp [maxLen], fun k u hk => ⟨_, rfl, ?_⟩⟩
  cases k with
  | zero =>
    have : u = .int .u8 (n : Int) := by simpa [u8s] using hk.symm
    subst this
    simp [Addr.add, World.cell?_alloc_at]
  | succ k => simp [u8s] at hk

/-- A new slice of no byte. -/
theorem own_empty {w : World} : OwnB w.heap.size (w.alloc (.cells #[] 5)) (.slice (some ⟨w.heap.size, 0, none⟩) 0 0) [] :=
  World.ownsRow_made (base := w.heap.size) w #[] 0 (Nat.le_refl _) (by simp [maxLen]) (by simp)

theorem Try.infoU8 : (Try.prog.info? 5).map (fun i => (i.zero, i.size, i.bytes)) = some (some (.int .u8 0), 1, 1) := by kernel_rfl

theorem run_appb {w : World} {base : Nat} {v s : Value} {xs ys : List Nat} (ty : TypeId) (hown : OwnB base w v xs) (hs : Byt w s ys) (hlen : xs.length + ys.length ≤ 140737488355328) (hb : base ≤ w.heap.size) :
    ∃ v' w', (Builtin.append_ #[33, 33] ty #[v, s]).run Try.prog w = .ok v' w' ∧ OwnB base w' v' (xs ++ ys) ∧ Below base w w' ∧ w.grownBy w' v.ownBlock := by
  obtain ⟨i0, hi, hz0, hz1, hz2⟩ := info_parts Try.infoU8
  obtain ⟨v', w', h1, h2, h3, _⟩ := run_append_sl (P := Try.prog) w base 33 ty 5 i0 _ 1 Try.underlying33 hi hz0 hz1 hz2 rfl hown hs (u8s_one ys) (by simp only [u8s_length]; omega) (by omega) hb
  refine ⟨v', w', h1, ?_, below_grown hb hown h3, h3⟩
  unfold OwnB; rw [u8s_append]; exact h2

/-- append as a step of a walk. -/
theorem appb {ops : Array Oper} {rest : List Oper} {o : Oper} {a : Act} {Q : Exit → Act → World → Prop} {w : World} (s x : Operand) (hgd : o.guard = none)
    (ho : o.op = .call { callee := .builtin .append, args := #[s, x], argTypes := #[33, 33] }) {base : Nat} {v sv : Value} {xs ys : List Nat} (hv : a.eval s = v) (hx : a.eval x = sv)
    (hown : OwnB base w v xs) (hs : Byt w sv ys) (hlen : xs.length + ys.length ≤ 140737488355328) (hb : base ≤ w.heap.size)
    (h : ∀ v' w', OwnB base w' v' (xs ++ ys) → Below base w w' → w.grownBy w' v.ownBlock → wpList Try.prog ops Q rest (a.put o.dst v') w') : wpList Try.prog ops Q (o :: rest) a w := by
  refine wpList_plain hgd fun K hK => ?_
  obtain ⟨v', w', hr, h2, h3, h4⟩ := run_appb o.type hown hs hlen hb
  unfold Oper.wp execOp
  simp only [ho, resolve, invoke, builtin, Sem.run_bind, Sem.run_pure, Result.andThen_ok, List.map_toArray, List.map_cons, List.map_nil, hv, hx, hr]
  exact hK _ _ (h v' w' h2 h3 h4)
end Go.Proofs.Ytgbhbifdfcfamaa
namespace Go.Proofs.Ytgbhbifdfcfamaa
set_option maxRecDepth 100000
open Go.RowKit

theorem Try.elB : El Try.prog 33 5 (.int .u8 0) 1 := by
  obtain ⟨i0, hi, hz0, hz1, hz2⟩ := info_parts Try.infoU8
  exact ⟨Try.underlying33, ⟨i0, hi, hz0, hz1, hz2⟩, rfl, by omega⟩

/-- The bytes l as a string. -/
def strN (l : List Nat) : ByteArray := ⟨(l.map fun n => UInt8.ofNat n).toArray⟩
theorem strN_inj {l m : List Nat} (hl : ∀ x ∈ l, x < 256) (hm : ∀ x ∈ m, x < 256) (h : strN l = strN m) : l = m := by
  have h' : l.map (fun n => UInt8.ofNat n) = m.map (fun n => UInt8.ofNat n) := by
    have := congrArg (fun b : ByteArray => b.data.toList) h; simpa [strN] using this
  have h2 := congrArg (List.map UInt8.toNat) h'
  simp only [List.map_map] at h2
  have hid : ∀ k : List Nat, (∀ x ∈ k, x < 256) → k.map (UInt8.toNat ∘ fun n => UInt8.ofNat n) = k := fun k hk => by
    conv => rhs; rw [← List.map_id k]
    refine List.map_congr_left fun x hx => ?_
    simp [Nat.mod_eq_of_lt (show x < 2 ^ 8 from hk x hx)]
  rwa [hid l hl, hid m hm] at h2
theorem strN_append (l m : List Nat) : strN (l ++ m) = strN l ++ strN m := by
  apply ByteArray.ext; simp [strN]

theorem runs_str {o : Oper} {ρ : Operand → Value} {w : World} {v : Value} {l : List Nat} (x : Operand) (ho : o.op = .convert 33 9 x) (hv : ρ x = v) (h : Byt w v l) :
    Runs Try.prog o ρ w (.string (strN l)) := by
  obtain ⟨A, c, rfl, h1, h2, h3⟩ := h
  unfold Runs execOp
  have hl : ∀ A : Option Addr, (∀ k u, (u8s l)[k]? = some u → ∃ ad : Addr, A = some ad ∧ w.cell? (ad.add k) = some u) →
      (convert 33 9 (.slice A (u8s l).length c)).run Try.prog w = .ok (.string (strN l)) w := by
    intro A h3
    cases A with
    | none =>
      have : l = [] := by
        cases l with
        | nil => rfl
        | cons x r => obtain ⟨ad, e, _⟩ := h3 0 _ rfl; cases e
      subst this
      exact run_convert_bytes_nil w 33 5 Try.underlying33 Try.underlying5 _ _ _ Try.underlying9
    | some ad =>
      have hlc : (loadCells ad l.length).run Try.prog w = .ok ((l.map fun n : Nat => (n : Int)).map (Value.int .u8)).toArray w := by
        have := run_loadCells_list (P := Try.prog) w ad (u8s l) (fun j u hj => by obtain ⟨ad', e, hc⟩ := h3 j u hj; injection e with e; subst e; exact hc)
        rw [u8s_length] at this
        rw [this]; simp [u8s]
      rw [run_convert_bytes_string w 33 9 5 _ _ c Try.underlying33 Try.underlying5 Try.underlying9, u8s_length, run_bytesToString w ad l.length c _ hlc, foldl_push_bytes]
      simp [strN, ByteArray.empty, ByteArray.emptyWithCapacity]
      rfl
  simp [ho, hv, hl A h3]

theorem w_str {ops : Array Oper} {rest : List Oper} {o : Oper} {a : Act} {Q : Exit → Act → World → Prop} {w : World} {v : Value} {l : List Nat} (x : Operand) (hgd : o.guard = none) (ho : o.op = .convert 33 9 x) (hv : a.eval x = v) (h : Byt w v l)
    (k : wpList Try.prog ops Q rest (a.put o.dst (.string (strN l))) w) : wpList Try.prog ops Q (o :: rest) a w :=
  wpList_runs hgd (runs_str x ho hv h) k

theorem u8s_drop (l : List Nat) (k : Nat) : (u8s l).drop k = u8s (l.drop k) := by simp [u8s]
theorem u8s_take (l : List Nat) (k : Nat) : (u8s l).take k = u8s (l.take k) := by simp [u8s]
theorem u8s_get (l : List Nat) (k : Nat) (h : k < (u8s l).length) : (u8s l)[k] = .int .u8 (l[k]'(by rwa [u8s_length] at h) : Nat) := by simp [u8s]

section
variable {ops : Array Oper} {rest : List Oper} {o : Oper} {a : Act} {Q : Exit → Act → World → Prop} {w : World} {v : Value} {l : List Nat}
theorem b_len (x : Operand) (hgd : o.guard = none) (ho : o.op = .call { callee := .builtin .len, args := #[x], argTypes := #[33] }) (hv : a.eval x = v) (h : Byt w v l)
    (k : wpList Try.prog ops Q rest (a.put o.dst (.int .i64 l.length)) w) : wpList Try.prog ops Q (o :: rest) a w :=
  w_len Try.elB x hgd ho hv h (by rw [u8s_length]; exact k)
theorem b_isnil (x : Operand) (n c : Nat) (hgd : o.guard = none) (ho : o.op = .binOp .eql 33 x (.const (.slice none n c)) 33) (hv : a.eval x = v) (h : Byt w v l)
    (k : ∀ b, (b = true → l = []) → wpList Try.prog ops Q rest (a.put o.dst (.bool b)) w) : wpList Try.prog ops Q (o :: rest) a w :=
  w_isnil Try.elB x n c hgd ho hv h fun b hb => k b fun e => by have := (hb e).1; cases l with | nil => rfl | cons x r => simp [u8s] at this
theorem b_cut (x y y' : Operand) (i j : Nat) (hgd : o.guard = none) (ho : o.op = .slice 33 x (some y) (some y') none) (hv : a.eval x = v) (h : Byt w v l) (hy : a.eval y = .int .i64 i) (hy' : a.eval y' = .int .i64 j) (hij : i ≤ j) (hj : j ≤ l.length)
    (k : ∀ v', Byt w v' ((l.take j).drop i) → wpList Try.prog ops Q rest (a.put o.dst v') w) : wpList Try.prog ops Q (o :: rest) a w :=
  w_cut Try.elB x y y' i j hgd ho hv h hy hy' hij (by rw [u8s_length]; exact hj) fun v' h' => k v' (by unfold Byt; rw [← u8s_drop, ← u8s_take]; exact h')
theorem b_from (x y : Operand) (i : Nat) (hgd : o.guard = none) (ho : o.op = .slice 33 x (some y) none none) (hv : a.eval x = v) (h : Byt w v l) (hy : a.eval y = .int .i64 i) (hj : i ≤ l.length)
    (k : ∀ v', Byt w v' (l.drop i) → wpList Try.prog ops Q rest (a.put o.dst v') w) : wpList Try.prog ops Q (o :: rest) a w :=
  w_from Try.elB x y i hgd ho hv h hy (by rw [u8s_length]; exact hj) fun v' h' => k v' (by unfold Byt; rw [← u8s_drop]; exact h')
theorem b_to (x y' : Operand) (j : Nat) (hgd : o.guard = none) (ho : o.op = .slice 33 x none (some y') none) (hv : a.eval x = v) (h : Byt w v l) (hy' : a.eval y' = .int .i64 j) (hj : j ≤ l.length)
    (k : ∀ v', Byt w v' (l.take j) → wpList Try.prog ops Q rest (a.put o.dst v') w) : wpList Try.prog ops Q (o :: rest) a w :=
  w_to Try.elB x y' j hgd ho hv h hy' (by rw [u8s_length]; exact hj) fun v' h' => k v' (by unfold Byt; rw [← u8s_take]; exact h')
theorem b_idx (x y : Operand) (i : Nat) (hgd : o.guard = none) (ho : o.op = .indexAddr 33 x y) (hv : a.eval x = v) (h : Byt w v l) (hy : a.eval y = .int .i64 i) (hi : i < l.length)
    (k : ∀ ad : Addr, w.cell? ad = some (.int .u8 (l[i] : Nat)) → wpList Try.prog ops Q rest (a.put o.dst (.pointer (some ad))) w) : wpList Try.prog ops Q (o :: rest) a w :=
  w_idx Try.elB x y i hgd ho hv h hy (by rw [u8s_length]; exact hi) fun ad hc => k ad (by rw [hc, u8s_get])
end
end Go.Proofs.Ytgbhbifdfcfamaa
namespace Go.Proofs.Ytgbhbifdfcfamaa
set_option maxRecDepth 100000
open Go.RowKit

theorem rcut {o : Oper} {ρ : Operand → Value} {w : World} {v : Value} {l : List Nat} (x : Operand) {lo hi : Option Operand} (ho : o.op = .slice 33 x lo hi none) (hv : ρ x = v) (h : Byt w v l) (i j : Nat)
    (hlo : (∃ y, lo = some y ∧ ρ y = .int .i64 i) ∨ lo = none ∧ i = 0) (hhi : (∃ y, hi = some y ∧ ρ y = .int .i64 j) ∨ hi = none ∧ j = l.length) (hij : i ≤ j) (hj : j ≤ l.length) {L : List Nat} (hL : (l.take j).drop i = L) :
    ∃ v', Runs Try.prog o ρ w v' ∧ Sp.p (.sl (u8s L)) v' w := by
  subst hL
  obtain ⟨v', h1, h2⟩ := runs_cut Try.elB x lo hi ho hv h i j hlo (hhi.imp id fun e => ⟨e.1, by rw [u8s_length]; exact e.2⟩) hij (by rw [u8s_length]; exact hj)
  refine ⟨v', h1, ?_⟩
  show Sl w v' _
  rw [← u8s_drop, ← u8s_take]; exact h2
/-- v reads as the bytes l, and lies from block lo on. -/
def Nb (lo : Nat) (w : World) (v : Value) (l : List Nat) : Prop := Byt w v l ∧ ∀ k, v.ownBlock = some k → lo ≤ k ∧ k < w.heap.size
theorem Nb.ext {lo : Nat} {w w' : World} {v : Value} {l : List Nat} (h : Nb lo w v l) (he : Ext w w') : Nb lo w' v l := ⟨h.1.ext he, fun k hk => ⟨(h.2 k hk).1, Nat.lt_of_lt_of_le (h.2 k hk).2 he.size⟩⟩
theorem Nb.nil (lo : Nat) (w : World) : Nb lo w (.slice none 0 0) [] := ⟨Byt.nil w, fun _ hk => nomatch hk⟩
theorem OwnB.nb {lo : Nat} {w : World} {v : Value} {l : List Nat} (h : OwnB lo w v l) : Nb lo w v l := ⟨h.byt, fun _ hk => own_block_lt h hk⟩
theorem Nb.mono {lo lo' : Nat} {w : World} {v : Value} {l : List Nat} (h : Nb lo w v l) (hl : lo' ≤ lo) : Nb lo' w v l := ⟨h.1, fun k hk => ⟨Nat.le_trans hl (h.2 k hk).1, (h.2 k hk).2⟩⟩
def Sp.nb (lo : Nat) (l : List Nat) : Sp := .any (fun v w => Nb lo w v l) fun _ _ _ h he => h.ext he
theorem rcutN {o : Oper} {ρ : Operand → Value} {w : World} {v : Value} {l : List Nat} {lw : Nat} (x : Operand) {lo hi : Option Operand} (ho : o.op = .slice 33 x lo hi none) (hv : ρ x = v) (h : Nb lw w v l) (i j : Nat)
    (hlo : (∃ y, lo = some y ∧ ρ y = .int .i64 i) ∨ lo = none ∧ i = 0) (hhi : (∃ y, hi = some y ∧ ρ y = .int .i64 j) ∨ hi = none ∧ j = l.length) (hij : i ≤ j) (hj : j ≤ l.length) {L : List Nat} (hL : (l.take j).drop i = L) :
    ∃ v', Runs Try.prog o ρ w v' ∧ Sp.p (.nb lw L) v' w := by
  subst hL
  obtain ⟨v', h1, h2, h3⟩ := runs_cut_own Try.elB x lo hi ho hv h.1 i j hlo (hhi.imp id fun e => ⟨e.1, by rw [u8s_length]; exact e.2⟩) hij (by rw [u8s_length]; exact hj)
  refine ⟨v', h1, ?_, fun k hk => h.2 k (h3 k hk)⟩
  show Sl w v' _
  rw [← u8s_drop, ← u8s_take]; exact h2
theorem runs_lenb {o : Oper} {ρ : Operand → Value} {w : World} {v : Value} {l : List Nat} (x : Operand) (ho : o.op = .call { callee := .builtin .len, args := #[x], argTypes := #[33] }) (hv : ρ x = v) (h : Byt w v l) :
    Runs Try.prog o ρ w (.int .i64 l.length) := by
  have := runs_len Try.elB x ho hv h; rwa [u8s_length] at this
theorem runs_lenbn {o : Oper} {ρ : Operand → Value} {w : World} {v : Value} {l : List Nat} {n : Nat} (x : Operand) (ho : o.op = .call { callee := .builtin .len, args := #[x], argTypes := #[33] }) (hv : ρ x = v) (h : Byt w v l) (hn : l.length = n) :
    Runs Try.prog o ρ w (.int .i64 n) := hn ▸ runs_lenb x ho hv h
/-- A new slice of the bytes l. -/
theorem byt_lit {w : World} (l : List Nat) (hl : l.length ≤ 1000000) {cs : Array Value} {fz : Nat × Nat} (hc : cs = (u8s l).toArray) : Byt (w.alloc (.cells cs 5 fz)) (.slice (some ⟨w.heap.size, 0, none⟩) l.length l.length) l := by
  subst hc
  refine ⟨some ⟨w.heap.size, 0, none⟩, l.length, by rw [u8s_length], by rw [u8s_length]; exact Nat.le_refl _, by simp only [maxLen]; omega, fun k u hk => ⟨_, rfl, ?_⟩⟩
  have hadd : (⟨w.heap.size, 0, none⟩ : Addr).add k = ⟨w.heap.size, k, none⟩ := by unfold Addr.add; split <;> simp_all
  rw [hadd, cell_of_row _ w.heap.size k _ 5 fz (heap_alloc_new w _)]
  simpa using hk


theorem rptr {o : Oper} {ρ : Operand → Value} {w : World} {v : Value} {l : List Nat} (x y : Operand) (ho : o.op = .indexAddr 33 x y) (hv : ρ x = v) (h : Byt w v l) (i : Nat) (hy : ρ y = .int .i64 i) (hi : i < l.length) {u : Nat} (hu : l[i] = u) :
    ∃ v', Runs Try.prog o ρ w v' ∧ (Sp.ptr (.int .u8 (u : Nat))).p v' w := by
  subst hu
  obtain ⟨ad, h1, h2⟩ := runs_idx Try.elB x y ho hv h i hy (by rw [u8s_length]; exact hi)
  exact ⟨_, h1, ad, rfl, by rw [h2, u8s_get]⟩
end Go.Proofs.Ytgbhbifdfcfamaa
namespace Go.Proofs.Ytgbhbifdfcfamaa
set_option maxRecDepth 100000
open Go.RowKit

theorem Byt.oneCell {w : World} {v : Value} {l : List Nat} (h : Byt w v l) : v.cells = #[v] := Sl.oneCell h
theorem u8s_cells (l : List Nat) : ∀ u ∈ u8s l, u.cells = #[u] := by
  intro u hu; simp only [u8s, List.mem_map] at hu; obtain ⟨n, _, rfl⟩ := hu; rfl
/-- Bytes written out. -/
theorem w_bytes {ops : Array Oper} {rest : List Oper} {o : Oper} {a : Act} {Q : Exit → Act → World → Prop} {w : World} {n : Nat} {ps : Array (Nat × Operand)} (l : List Nat) (hgd : o.guard = none) (ho : o.op = .buildSlice 33 n ps)
    (hps : (ps.toList.map fun x => (x.1, a.eval x.2)) = ((u8s l).zipIdx 0).map fun p => (p.2, p.1)) (hn : n = l.length) (hs : n ≤ 1000000)
    (k : ∀ v' w', Ext w w' → OwnB w.heap.size w' v' l → wpList Try.prog ops Q rest (a.put o.dst v') w') : wpList Try.prog ops Q (o :: rest) a w :=
  w_new Try.elB (u8s l) hgd ho hps (u8s_cells l) (by rw [u8s_length]; exact hn) hs fun v' w' hx h => k v' w' hx h
end Go.Proofs.Ytgbhbifdfcfamaa
