/- A region that draws its order, by an invariant of its states: what is told of the slots and of the memory when some of its operations have come up, whichever; each operation that may come up keeps it. For regions in which an operation writes to what the region itself made. -/
import Derived.Test.YtgbhbifdfcfamaaFC
namespace Go.Proofs.Ytgbhbifdfcfamaa
set_option maxRecDepth 100000
open Go.RowKit

/-- Each operation waits for earlier ones alone. -/
def dagB (ops : Array Oper) : Bool := (List.range ops.size).all fun i => match ops[i]? with | some o => (deps o).all fun j => decide (j < i) | none => true
theorem dag_of {ops : Array Oper} (h : dagB ops = true) {i : Nat} {o : Oper} (ho : ops[i]? = some o) : ∀ j ∈ deps o, j < i := fun j hj => by
  have hi := (Array.getElem?_eq_some_iff.1 ho).1
  simp only [dagB, List.all_eq_true, List.mem_range] at h
  have h1 := h i hi
  rw [ho] at h1
  simp only [List.all_eq_true, decide_eq_true_eq] at h1
  exact h1 j hj
section
variable {P : Program} {ops : Array Oper} {Q : Exit → Act → World → Prop}
theorem wpAny_inv (hdag : dagB ops = true) (Inv : Array Bool → Act → World → Prop)
    (step : ∀ (listed : Array Bool) (a : Act) (w : World) (i : Nat) (o : Oper), listed.size = ops.size → Inv listed a w → ops[i]? = some o → listed[i]? = some false → (∀ j ∈ deps o, listed[j]? = some true) → (∀ (k : Nat) (ok : Oper), ops[k]? = some ok → i ∈ deps ok → listed[k]? = some false) →
      wpOp P ops Q i (Inv (listed.setIfInBounds i true)) a w)
    (fin : ∀ (listed : Array Bool) (a : Act) (w : World), (∀ i, i < ops.size → listed[i]? = some true) → Inv listed a w → Q .normal a w) :
    ∀ (f : Nat) (listed : Array Bool) (a : Act) (w : World), listed.size = ops.size → listed.toList.count false = f → Closed ops listed → Inv listed a w → wpAny P .any ops Q f listed a w := by
  intro f
  induction f with
  | zero =>
    intro listed a w hls hcnt hcl hI
    have hall : ∀ i, i < ops.size → listed[i]? = some true := fun i hi => by
      have hm : false ∉ listed.toList := List.count_eq_zero.1 hcnt
      have hlt : i < listed.size := by omega
      rw [Array.getElem?_eq_getElem hlt]
      cases hb : listed[i] with
      | true => rfl
      | false => exact absurd (by rw [← hb]; exact Array.getElem_mem_toList hlt) hm
    refine ⟨?_, fin listed a w hall hI⟩
    cases hr : Region.ready .any ops listed with
    | nil => rfl
    | cons i r =>
      obtain ⟨o, ho, hu, _⟩ := (ready_iffL ops hls i).1 (by rw [hr]; exact List.mem_cons_self ..)
      rw [hall i (Array.getElem?_eq_some_iff.1 ho).1] at hu; cases hu
  | succ f ih =>
    intro listed a w hls hcnt hcl hI
    refine ⟨fun hnil => ?_, fun i hi => ?_⟩
    · refine fin listed a w (fun i => ?_) hI
      induction i using Nat.strongRecOn with
      | _ i ihi =>
        intro hi
        have ho : ops[i]? = some ops[i] := Array.getElem?_eq_getElem hi
        have hlt : i < listed.size := by omega
        cases hb : listed[i] with
        | true => rw [Array.getElem?_eq_getElem hlt, hb]
        | false =>
          have : i ∈ Region.ready .any ops listed := (ready_iffL ops hls _).2 ⟨_, ho, by rw [Array.getElem?_eq_getElem hlt, hb], fun j hj => by
            have h1 := dag_of hdag ho j hj
            exact ihi j h1 (by omega)⟩
          rw [hnil] at this; cases this
    · obtain ⟨o, ho, hun, hdeps⟩ := (ready_iffL ops hls i).1 hi
      have his := (Array.getElem?_eq_some_iff.1 ho).1
      have hil : i < listed.size := by omega
      have hlater : ∀ (k : Nat) (ok : Oper), ops[k]? = some ok → i ∈ deps ok → listed[k]? = some false := fun k ok hk hd => by
        have hks : k < listed.size := by rw [hls]; exact (Array.getElem?_eq_some_iff.1 hk).1
        cases hb : listed[k] with
        | false => rw [Array.getElem?_eq_getElem hks, hb]
        | true =>
          have := hcl k ok hk (by rw [Array.getElem?_eq_getElem hks, hb]) _ hd
          rw [hun] at this; cases this
      have hcl' : Closed ops (listed.setIfInBounds i true) := by
        intro k ok hk hl j hj
        by_cases hki : k = i
        · subst hki; rw [ho] at hk; cases hk
          have hne : k ≠ j := by have := dag_of hdag ho j hj; omega
          rw [Array.getElem?_setIfInBounds_ne hne]; exact hdeps j hj
        · rw [Array.getElem?_setIfInBounds_ne (Ne.symm hki)] at hl
          have := hcl k ok hk hl j hj
          by_cases hij : i = j
          · subst hij; rw [hun] at this; cases this
          · rw [Array.getElem?_setIfInBounds_ne hij]; exact this
      have hcnt' : (listed.setIfInBounds i true).toList.count false = f := by
        have h1 : listed.toList[i]? = some false := by simpa using hun
        have := count_set_true _ _ h1
        rw [Array.toList_setIfInBounds]; omega
      exact wpOp_mono (fun a' w' hI' => ih _ a' w' (by simpa using hls) hcnt' hcl' hI') (step listed a w i o hls hI ho hun hdeps hlater)
/-- The region, by an invariant. -/
theorem wp_region_inv {id : Nat} {a : Act} {w : World} (hm : P.follows .mixedOrders = true) (hdag : dagB ops = true)
    (h : ∀ w1, Ext w w1 → ∃ Inv : Array Bool → Act → World → Prop, Inv (Array.replicate ops.size false) a w1 ∧
      (∀ (listed : Array Bool) (a : Act) (w : World) (i : Nat) (o : Oper), listed.size = ops.size → Inv listed a w → ops[i]? = some o → listed[i]? = some false → (∀ j ∈ deps o, listed[j]? = some true) → (∀ (k : Nat) (ok : Oper), ops[k]? = some ok → i ∈ deps ok → listed[k]? = some false) →
        wpOp P ops Q i (Inv (listed.setIfInBounds i true)) a w) ∧
      (∀ (listed : Array Bool) (a : Act) (w : World), (∀ i, i < ops.size → listed[i]? = some true) → Inv listed a w → Q .normal a w)) : (Code.region id ops true).wp P Q a w := by
  obtain ⟨Inv, h1, h2, h3⟩ := h { w with drawn := w.drawn + 1 } (Ext.refl w).drew
  refine wp_region_any hm (wpAny_inv hdag Inv h2 h3 _ _ a _ (by simp) (by simp) (fun i o hi hl => ?_) h1)
  have := (Array.getElem?_eq_some_iff.1 hi).1
  simp [this] at hl
end
/-- What the slots say behind an operation, and what is listed. -/
theorem put_slots (a : Act) (d : Tmp) (v : Value) (hd : d < a.tmps.size) : (fun t => (a.put (some d) v).tmps.getD t undef) = fun t => if t = d then v else a.tmps.getD t undef := by
  funext t
  rw [Array.getD_eq_getD_getElem?, Act.put_get]
  by_cases h : t = d
  · subst h; simp [hd]
  · rw [if_neg (Ne.symm h), if_neg h, Array.getD_eq_getD_getElem?]
theorem put_listed (listed : Array Bool) (i : Nat) (hi : i < listed.size) : (fun j => (listed.setIfInBounds i true)[j]? = some true) = fun j => j = i ∨ listed[j]? = some true := by
  funext j
  by_cases h : j = i
  · subst h; simp [hi]
  · rw [Array.getElem?_setIfInBounds_ne (Ne.symm h)]; simp [h]
end Go.Proofs.Ytgbhbifdfcfamaa
