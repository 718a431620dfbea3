/- What a parameter of type [3]int reads as. -/
import Derived.Test.YtkkbpmkeemfppaaFL
namespace Go.Proofs.Ytkkbpmkeemfppaa
open Go.RowKit Go.ChangeShapes Go.WideShapes Go.ChangeAt

theorem mapM_each {α β : Type} {f : α → Option β} : ∀ (l : List α) {ys : List β}, l.mapM f = some ys → ∀ a ∈ l, ∃ y, f a = some y
  | [], _, _, a, h => by simp at h
  | b :: l, ys, h, a, ha => by
    rw [List.mapM_cons] at h
    simp only [bind, Option.bind_eq_some_iff, pure, Option.some.injEq] at h
    obtain ⟨y, hy, ys', hys, _⟩ := h
    rcases List.mem_cons.1 ha with rfl | ha
    · exact ⟨y, hy⟩
    · exact mapM_each l hys a ha

section
variable {H : Type} {enc : TypeId × Value → H} {P : Program} {W : World} {base b0 : Nat} {sp : Nat → Bool} {held : Bool} {v : Value} {d : DataW H} {ps : List MemPlace}
/-- The integer that a cell holds. -/
def cellInt : Value → Int
  | .int _ z => z
  | _ => 0
theorem open_int_array {t e : TypeId} {n : Nat} {q : IntKind} (hu : P.underlying t = some (.array n e)) (he : P.underlying e = some (.int q)) (ce : P.cellsOf e = 1) (ct : P.cellsOf t = n)
    (hval : Value.okWide P W .any base t v) (h : DataW.Trod enc P W b0 sp held t v d ps) : ∃ zs : List Int, v = .agg (zs.map (Value.int q)).toArray ∧ zs.length = n ∧ ∀ z ∈ zs, (Lit.int q z).wf = true := by
  simp only [Value.okWide, hu] at hval
  obtain ⟨cs, rfl, hsz, _⟩ := hval
  rw [ct] at hsz
  obtain ⟨fuel, hf⟩ := h
  cases fuel with
  | zero => simp [DataW.trod] at hf
  | succ m =>
    rw [DataW.trod_step] at hf
    unfold DataW.trodStep at hf
    simp only [hu, Value.cells] at hf
    rw [if_pos (by rw [ct]; simpa using hsz)] at hf
    simp only [Option.map_eq_some_iff] at hf
    obtain ⟨ys, hy, _⟩ := hf
    have each : ∀ i (hi : i < cs.toList.length), ∃ a, cs.toList[i] = .int q a ∧ (Lit.int q a).wf = true := by
      intro i hi
      obtain ⟨y, hyi⟩ := mapM_each _ hy i (List.mem_range.2 (by simp at hi; omega))
      rw [ce, Nat.mul_one, List.drop_eq_getElem_cons hi, List.take_succ_cons, List.take_zero] at hyi
      obtain ⟨a, ea, _, wa⟩ := DataW.trod_int he hyi
      exact ⟨a, by simpa using ea, wa⟩
    refine ⟨cs.toList.map cellInt, ?_, by simpa using hsz, ?_⟩
    · congr 1
      have : (cs.toList.map cellInt).map (Value.int q) = cs.toList := by
        rw [List.map_map]
        apply List.ext_getElem (by simp)
        intro i h1 h2
        obtain ⟨a, ha, _⟩ := each i h2
        simp only [List.getElem_map, Function.comp, ha, cellInt]
      rw [this]
    · intro z hz
      obtain ⟨u, hu', rfl⟩ := List.mem_map.1 hz
      obtain ⟨i, hi, rfl⟩ := List.getElem_of_mem hu'
      obtain ⟨a, ha, wa⟩ := each i hi
      rw [ha]; exact wa
theorem open_int_array3 {t e : TypeId} {q : IntKind} (hu : P.underlying t = some (.array 3 e)) (he : P.underlying e = some (.int q)) (ce : P.cellsOf e = 1) (ct : P.cellsOf t = 3)
    (hval : Value.okWide P W .any base t v) (h : DataW.Trod enc P W b0 sp held t v d ps) : ∃ x y z : Int, v = .agg #[.int q x, .int q y, .int q z] ∧ (Lit.int q x).wf = true ∧ (Lit.int q y).wf = true ∧ (Lit.int q z).wf = true := by
  obtain ⟨zs, rfl, hl, hw⟩ := open_int_array hu he ce ct hval h
  match zs, hl with
  | [x, y, z], _ => exact ⟨x, y, z, rfl, hw x (by simp), hw y (by simp), hw z (by simp)⟩
end
end Go.Proofs.Ytkkbpmkeemfppaa
