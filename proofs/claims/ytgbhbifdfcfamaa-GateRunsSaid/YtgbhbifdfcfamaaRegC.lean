/- A region that draws its order in which some operations, each waiting for the one before, change or make what the memory tells (a chain), while the others tell of values alone: 'p.f = g(p.f, []T{x}..)' in whichever order. -/
import Derived.Test.YtgbhbifdfcfamaaRegG
namespace Go.Proofs.Ytgbhbifdfcfamaa
set_option maxRecDepth 100000
open Go.RowKit

section
variable {P : Program} {ops : Array Oper} {Q : Exit → Act → World → Prop}
def dno (no : List Nat) (dn : Nat → Nat) (i : Nat) : Option Nat := if no.contains i then none else some (dn i)
def onB (ops : Array Oper) (i j : Nat) : Bool := ((ops[i]?).map fun o => (deps o).contains j).getD false
/-- What is told when some operations have come up: so many of the chain. -/
structure IChn (a0 : Act) (idx wo no : List Nat) (dn : Nat → Nat) (V : Nat → Value → Prop) (J : Nat → Value → World → Prop) (listed : Array Bool) (a : Act) (w : World) : Prop where
  sz : a.tmps.size = a0.tmps.size
  df : a.defers = a0.defers
  out : ∀ t, (∀ i ∈ wo ++ idx, t ≠ dn i) → a.tmps.getD t undef = a0.tmps.getD t undef
  val : ∀ i ∈ idx, listed[i]? = some true → V i (a.tmps.getD (dn i) undef)
  st : ∃ k v, k ≤ wo.length ∧ (∀ m, m < wo.length → (listed[wo.getD m 0]? = some true ↔ m < k)) ∧ (0 < k → no.contains (wo.getD (k - 1) 0) = false → a.tmps.getD (dn (wo.getD (k - 1) 0)) undef = v) ∧ J k v w

theorem puts_allO (a' : Act) (no : List Nat) (dn : Nat → Nat) : ∀ (idx : List Nat) (a : Act), (∀ i ∈ idx, dn i < a.tmps.size) →
    (idx.foldl (fun b i => b.put (dno no dn i) (a'.tmps.getD (dn i) undef)) a).tmps.size = a.tmps.size ∧ (idx.foldl (fun b i => b.put (dno no dn i) (a'.tmps.getD (dn i) undef)) a).defers = a.defers ∧
    ∀ t, (idx.foldl (fun b i => b.put (dno no dn i) (a'.tmps.getD (dn i) undef)) a).tmps.getD t undef = if t ∈ (idx.filter fun i => !no.contains i).map dn then a'.tmps.getD t undef else a.tmps.getD t undef
  | [], a, _ => ⟨rfl, rfl, fun t => by simp⟩
  | i :: r, a, h => by
    by_cases hn : no.contains i = true
    · have e : dno no dn i = none := if_pos hn
      obtain ⟨e1, e2, e3⟩ := puts_allO a' no dn r a fun j hj => h j (List.mem_cons_of_mem _ hj)
      rw [List.foldl_cons, e, show a.put none (a'.tmps.getD (dn i) undef) = a from rfl]
      refine ⟨e1, e2, fun t => ?_⟩
      rw [e3 t, List.filter_cons_of_neg (by rw [hn]; decide)]
    · have e : dno no dn i = some (dn i) := if_neg hn
      have h1 := h i (List.mem_cons_self ..)
      obtain ⟨e1, e2, e3⟩ := puts_allO a' no dn r (a.put (some (dn i)) (a'.tmps.getD (dn i) undef)) fun j hj => by rw [Act.put_size]; exact h j (List.mem_cons_of_mem _ hj)
      rw [List.foldl_cons, e]
      refine ⟨by rw [e1, Act.put_size], by rw [e2, Act.put_defers'], fun t => ?_⟩
      rw [e3 t, put_getD h1, List.filter_cons_of_pos (by rw [show no.contains i = false from Bool.eq_false_iff.2 hn]; decide), List.map_cons]
      by_cases hm : t ∈ (r.filter fun i => !no.contains i).map dn
      · rw [if_pos hm, if_pos (List.mem_cons_of_mem _ hm)]
      · rw [if_neg hm]
        by_cases hd : t = dn i
        · rw [if_pos hd, if_pos (by rw [hd]; exact List.mem_cons_self ..), hd]
        · rw [if_neg hd, if_neg (by intro h; rcases List.mem_cons.1 h with h | h; exact hd h; exact hm h)]

theorem wp_region_chain {id : Nat} {a : Act} {w : World} (idx wo no : List Nat) (dn : Nat → Nat) (V : Nat → Value → Prop) (J : Nat → Value → World → Prop)
    (hm : P.follows .mixedOrders = true) (hdag : dagB ops = true) (hcov : ((List.range ops.size).all fun i => wo.contains i || idx.contains i) = true) (hdis : (idx.all fun i => !(wo.contains i) && !(no.contains i)) = true)
    (hib : ((wo ++ idx).all fun i => decide (i < ops.size)) = true) (hnd : wo.Nodup) (hno : (no.all fun i => (wo ++ idx).any fun j => !(no.contains j) && dn j == dn i) = true)
    (hinj : ((wo ++ idx).all fun i => (wo ++ idx).all fun j => i == j || no.contains i || no.contains j || !(dn i == dn j)) = true) (hlt : ∀ i ∈ wo ++ idx, dn i < a.tmps.size)
    (hch : ((List.range wo.length).all fun m => (m + 1 == wo.length) || onB ops (wo.getD (m + 1) 0) (wo.getD m 0)) = true)
    (j0 : ∀ w1, Ext w w1 → J 0 undef w1)
    (steps : ∀ i ∈ idx, ∀ (k : Nat) (v : Value) (b : Act) (w' : World), J k v w' → (∀ m, m < wo.length → onB ops (wo.getD m 0) i = true → k ≤ m) → (∀ m, m < wo.length → onB ops i (wo.getD m 0) = true → m < k) →
      (∀ t, (∀ j ∈ wo ++ idx, t ≠ dn j) → b.tmps.getD t undef = a.tmps.getD t undef) → (∀ j, j ∈ idx → onB ops i j = true → V j (b.tmps.getD (dn j) undef)) →
      wpOp P ops Q i (fun b' w'' => ∃ x, b' = b.put (some (dn i)) x ∧ V i x ∧ J k v w'') b w')
    (works : ∀ k, k < wo.length → ∀ (v : Value) (b : Act) (w' : World), J k v w' → (0 < k → no.contains (wo.getD (k - 1) 0) = false → b.tmps.getD (dn (wo.getD (k - 1) 0)) undef = v) →
      (∀ t, (∀ j ∈ wo ++ idx, t ≠ dn j) → b.tmps.getD t undef = a.tmps.getD t undef) → (∀ j, j ∈ idx → onB ops (wo.getD k 0) j = true → V j (b.tmps.getD (dn j) undef)) →
      wpOp P ops Q (wo.getD k 0) (fun b' w'' => ∃ x, b' = b.put (dno no dn (wo.getD k 0)) x ∧ J (k + 1) x w'') b w')
    (fin : ∀ (w' : World) (v : Value) (x : Nat → Value), J wo.length v w' → (∀ i ∈ idx, V i (x i)) → (0 < wo.length → no.contains (wo.getD (wo.length - 1) 0) = false → x (wo.getD (wo.length - 1) 0) = v) →
      Q .normal ((wo ++ idx).foldl (fun b i => b.put (dno no dn i) (x i)) a) w') :
    (Code.region id ops true).wp P Q a w := by
  simp only [List.all_eq_true, Bool.or_eq_true, Bool.and_eq_true, beq_iff_eq, Bool.not_eq_true', beq_eq_false_iff_ne, List.mem_range, decide_eq_true_eq] at hcov hdis hib hinj hch
  have hne : ∀ i ∈ wo ++ idx, ∀ j ∈ wo ++ idx, i ≠ j → no.contains i = false → no.contains j = false → dn i ≠ dn j := fun i hi j hj hij n1 n2 e => by
    rcases hinj i hi j hj with ((h | h) | h) | h
    · exact hij h
    · rw [n1] at h; cases h
    · rw [n2] at h; cases h
    · exact h e
  have hwm : ∀ m, m < wo.length → wo.getD m 0 ∈ wo := fun m hm => by
    rw [List.getD_eq_getElem?_getD, List.getElem?_eq_getElem hm]; exact List.getElem_mem hm
  have hwi : ∀ m n, m < wo.length → n < wo.length → wo.getD m 0 = wo.getD n 0 → m = n := fun m n hm hn e => by
    rw [List.getD_eq_getElem?_getD, List.getD_eq_getElem?_getD, List.getElem?_eq_getElem hm, List.getElem?_eq_getElem hn] at e
    exact (List.getElem_inj hnd).1 e
  refine wp_region_inv hm hdag fun w1 hx1 => ⟨fun listed b w' => IChn a idx wo no dn V J listed b w', ⟨rfl, rfl, fun _ _ => rfl, fun i _ hl => ?_, 0, undef, Nat.zero_le _, fun m hm => ⟨fun hl => ?_, fun h => absurd h (by omega)⟩, fun h => absurd h (by omega), j0 w1 hx1⟩, ?_, ?_⟩
  · rw [Array.getElem?_replicate] at hl; split at hl <;> simp at hl
  · rw [Array.getElem?_replicate] at hl; split at hl <;> simp at hl
  · intro listed b w' i o hls h ho hun hdeps hlater
    have his := (Array.getElem?_eq_some_iff.1 ho).1
    have hil : i < listed.size := by omega
    have hL : ∀ j, (listed.setIfInBounds i true)[j]? = some true ↔ j = i ∨ listed[j]? = some true := fun j => by
      rw [show ((listed.setIfInBounds i true)[j]? = some true) = (j = i ∨ listed[j]? = some true) from congrFun (put_listed listed i hil) j]
    have hdep : ∀ j, onB ops i j = true → listed[j]? = some true := fun j hb => by
      rw [onB, ho] at hb
      exact hdeps j (by simpa using hb)
    have hlat : ∀ k, onB ops k i = true → ¬ listed[k]? = some true := fun k hb hl => by
      cases hk : ops[k]? with
      | none => rw [onB, hk] at hb; cases hb
      | some ok =>
        rw [onB, hk] at hb
        rw [hlater k ok hk (by simpa using hb)] at hl; cases hl
    have hunl : ¬ listed[i]? = some true := by rw [hun]; simp
    obtain ⟨k, v, hk, hkl, hkv, hJ⟩ := h.st
    by_cases hw : i ∈ wo
    · obtain ⟨m, hml, hme⟩ := List.getElem_of_mem hw
      have hmi : wo.getD m 0 = i := by rw [List.getD_eq_getElem?_getD, List.getElem?_eq_getElem hml]; exact hme
      have hkm : k = m := by
        have h1 : k ≤ m := by
          rcases Nat.lt_or_ge m k with h2 | h2
          · exact absurd ((hkl m hml).2 h2) (by rw [hmi]; exact hunl)
          · exact h2
        rcases Nat.lt_or_ge k m with h2 | h2
        · obtain ⟨q, rfl⟩ : ∃ q, m = q + 1 := ⟨m - 1, by omega⟩
          have h3 := (hch q (by omega)).resolve_left (by omega)
          rw [hmi] at h3
          have := (hkl q (by omega)).1 (hdep _ h3)
          omega
        · omega
      subst hkm
      have hwk := works k hml v b w' hJ hkv h.out fun j hj hb => h.val j hj (hdep j (by rw [← hmi]; exact hb))
      rw [hmi] at hwk
      refine wpOp_mono (fun b' w'' => ?_) hwk
      rintro ⟨x, rfl, hJ'⟩
      have hd : dn i < b.tmps.size := by rw [h.sz]; exact hlt i (List.mem_append_left _ hw)
      have hki : ∀ m', m' < wo.length → ((listed.setIfInBounds i true)[wo.getD m' 0]? = some true ↔ m' < k + 1) := fun m' hm' => by
        rw [hL, hkl m' hm']
        constructor
        · rintro (e | e)
          · have := hwi m' k hm' hml (e.trans hmi.symm); omega
          · omega
        · intro e
          rcases Nat.lt_or_ge m' k with h2 | h2
          · exact .inr h2
          · have : m' = k := by omega
            exact .inl (by rw [this, hmi])
      by_cases hn : no.contains i = true
      · rw [show dno no dn i = none from if_pos hn, show b.put none x = b from rfl]
        refine ⟨h.sz, h.df, h.out, fun j hj hl => h.val j hj (((hL j).1 hl).resolve_left fun e => ?_), k + 1, x, hml, hki, fun _ hc => ?_, hJ'⟩
        · have := (hdis j hj).1
          rw [e] at this
          rw [List.contains_iff_mem.2 hw] at this; cases this
        · rw [Nat.add_sub_cancel, hmi, hn] at hc; cases hc
      · have hn' : no.contains i = false := by simpa using hn
        rw [show dno no dn i = some (dn i) from if_neg hn]
        refine ⟨by rw [Act.put_size]; exact h.sz, by rw [Act.put_defers']; exact h.df, fun t ht => ?_, fun j hj hl => ?_, k + 1, x, hml, hki, fun _ _ => ?_, hJ'⟩
        · rw [put_getD hd, if_neg (ht i (List.mem_append_left _ hw))]; exact h.out t ht
        · have hji : j ≠ i := fun e => by
            have := (hdis j hj).1
            rw [e, List.contains_iff_mem.2 hw] at this; cases this
          rw [put_getD hd, if_neg (hne j (List.mem_append_right _ hj) i (List.mem_append_left _ hw) hji (hdis j hj).2 hn')]
          exact h.val j hj (((hL j).1 hl).resolve_left hji)
        · rw [Nat.add_sub_cancel, hmi, put_getD hd, if_pos rfl]
    · have hi : i ∈ idx := by
        have := hcov i his
        rcases this with h1 | h1
        · exact absurd (List.contains_iff_mem.1 h1) hw
        · exact List.contains_iff_mem.1 h1
      have hd : dn i < b.tmps.size := by rw [h.sz]; exact hlt i (List.mem_append_right _ hi)
      refine wpOp_mono (fun b' w'' => ?_) (steps i hi k v b w' hJ (fun m hm hb => ?_) (fun m hm hb => (hkl m hm).1 (hdep _ hb)) h.out fun j hj hb => h.val j hj (hdep j hb))
      rotate_left
      · rcases Nat.lt_or_ge m k with h2 | h2
        · exact absurd ((hkl m hm).2 h2) (hlat _ hb)
        · exact h2
      rintro ⟨x, rfl, hv, hJ'⟩
      refine ⟨by rw [Act.put_size]; exact h.sz, by rw [Act.put_defers']; exact h.df, fun t ht => ?_, fun j hj hl => ?_, k, v, hk, fun m hm => ?_, fun h0 hc => ?_, hJ'⟩
      · rw [put_getD hd, if_neg (ht i (List.mem_append_right _ hi))]; exact h.out t ht
      · by_cases hji : j = i
        · subst hji; rw [put_getD hd, if_pos rfl]; exact hv
        · rw [put_getD hd, if_neg (hne j (List.mem_append_right _ hj) i (List.mem_append_right _ hi) hji (hdis j hj).2 (hdis i hi).2)]
          exact h.val j hj (((hL j).1 hl).resolve_left hji)
      · rw [hL, ← hkl m hm]
        exact ⟨fun e => e.resolve_left fun e => hw (e ▸ hwm m hm), .inr⟩
      · have hm1 := hwm (k - 1) (by omega)
        rw [put_getD hd, if_neg (hne _ (List.mem_append_left _ hm1) i (List.mem_append_right _ hi) (fun e => hw (e ▸ hm1)) hc (hdis i hi).2)]
        exact hkv h0 hc
  · intro listed b w' hall h
    obtain ⟨k, v, hk, hkl, hkv, hJ⟩ := h.st
    have hkf : k = wo.length := by
      rcases Nat.lt_or_ge k wo.length with h2 | h2
      · have := (hkl k h2).1 (hall _ (hib _ (List.mem_append_left _ (hwm k h2))))
        omega
      · omega
    subst hkf
    obtain ⟨e1, e2, e3⟩ := puts_allO b no dn (wo ++ idx) a hlt
    have he : b = (wo ++ idx).foldl (fun c i => c.put (dno no dn i) (b.tmps.getD (dn i) undef)) a := by
      refine act_eq (by rw [e1]; exact h.sz) (by rw [e2]; exact h.df) fun t => ?_
      rw [e3 t]
      by_cases hm : t ∈ ((wo ++ idx).filter fun i => !no.contains i).map dn
      · rw [if_pos hm]
      · rw [if_neg hm]
        refine h.out t fun i hi e => hm ?_
        by_cases hn : no.contains i = true
        · simp only [List.all_eq_true, List.any_eq_true, Bool.and_eq_true, beq_iff_eq] at hno
          obtain ⟨j, hj, hj1, hj2⟩ := hno i (List.contains_iff_mem.1 hn)
          exact List.mem_map.2 ⟨j, List.mem_filter.2 ⟨hj, hj1⟩, hj2.trans e.symm⟩
        · exact List.mem_map.2 ⟨i, List.mem_filter.2 ⟨hi, by simpa using hn⟩, e.symm⟩
    rw [he]
    exact fin w' v (fun i => b.tmps.getD (dn i) undef) hJ (fun i hi => h.val i hi (hall i (hib i (List.mem_append_right _ hi)))) hkv
theorem w_mvC {rest : List Oper} {o : Oper} {a : Act} {w : World} {v : Value} (x : Operand) (hgd : o.guard = none) (ho : o.op = .move x ∨ o.op = .assign x) (hv : a.eval x = v) (k : wpList P ops Q rest (a.put o.dst v) w) : wpList P ops Q (o :: rest) a w := by
  refine wpList_runs hgd ?_ k
  unfold Runs execOp
  rcases ho with ho | ho <;> simp [ho, hv]
theorem w_nilC {rest : List Oper} {o : Oper} {a : Act} {w : World} (x : Operand) {A : Addr} (hgd : o.guard = none) (ho : o.op = .nilCheck x) (hv : a.eval x = .pointer (some A)) (k : wpList P ops Q rest (a.put o.dst (.pointer (some A))) w) : wpList P ops Q (o :: rest) a w :=
  wpList_runs hgd (runs_nil x ho hv) k
end
end Go.Proofs.Ytgbhbifdfcfamaa
