/- Transactions added one after the other, as plain mathematics. -/
import Derived.Test.YtdacclcaopmalaaMemN
namespace Go.Proofs.Ytdacclcaopmalaa
set_option maxRecDepth 100000

def pst (l : List TxD) (k : Nat) : List TxD := (l.take k).foldl (fun a t => (Mem.add a t).1) []
theorem pst_zero (l : List TxD) : pst l 0 = [] := by simp [pst]
theorem pst_succ {l : List TxD} {k : Nat} {d : TxD} (h : l[k]? = some d) : pst l (k + 1) = (Mem.add (pst l k) d).1 := by
  unfold pst
  rw [List.take_add_one, h]; simp
theorem pst_ok (l : List TxD) : ∀ k, Mem.Ok (pst l k)
  | 0 => by rw [pst_zero]; exact Mem.Ok.nil
  | k + 1 => by
    cases h : l[k]? with
    | some d => rw [pst_succ h]; exact (pst_ok l k).add d
    | none =>
      have h1 := List.getElem?_eq_none_iff.1 h
      have h2 : pst l (k + 1) = pst l k := by unfold pst; rw [List.take_of_length_le (by omega), List.take_of_length_le h1]
      rw [h2]; exact pst_ok l k
/-- What becomes of one: it is taken, or nothing changes. -/
theorem add_yes {X X2 : List TxD} {d : TxD} {er : Int} (hf : X.length ≤ 16) (h : Mem.add X d = (X2, er)) (he : (er == 0) = true) : d.Right ∧ Mem.hasId X d.id = false ∧ Mem.plc X d < 16 ∧ X2 = (Mem.insAt X (Mem.plc X d) d).take 16 ∧ X2.length = min (X.length + 1) 16 ∧ er = 0 := by
  have he' : er = 0 := by simpa using he
  unfold Mem.add at h
  split at h
  · injection h with _ h2; omega
  · rename_i hr
    split at h
    · injection h with _ h2; omega
    · rename_i hc
      injection h with h1 _
      refine ⟨Classical.not_not.1 hr, ?_, ?_, h1.symm, by rw [← h1, List.length_take, Mem.insAt_len]; omega, he'⟩
      · cases hh : Mem.hasId X d.id with
        | true => exact absurd (.inl hh) hc
        | false => rfl
      · rcases Nat.lt_or_ge (Mem.plc X d) 16 with h3 | h3
        · exact h3
        · exact absurd (.inr h3) hc
theorem add_no {X X2 : List TxD} {d : TxD} {er : Int} (h : Mem.add X d = (X2, er)) (he : (er == 0) = false) : X2 = X ∧ (er = 61 ∧ ¬ d.Right ∨ er = 91 ∧ d.Right ∧ (Mem.hasId X d.id = true ∨ 16 ≤ Mem.plc X d)) := by
  have he' : er ≠ 0 := by simpa using he
  unfold Mem.add at h
  split at h
  · rename_i hr
    injection h with h1 h2; exact ⟨h1.symm, .inl ⟨h2.symm, hr⟩⟩
  · rename_i hr
    split at h
    · rename_i hc
      injection h with h1 h2; exact ⟨h1.symm, .inr ⟨h2.symm, Classical.not_not.1 hr, hc⟩⟩
    · injection h with _ h2; omega
namespace Mem
theorem Ok.less {K : List TxD} (h : Ok K) {i j : Nat} {u t : TxD} (hu : K[j]? = some u) (ht : K[i]? = some t) (hij : j < i) : TxD.less u t = true := by
  obtain ⟨hj, rfl⟩ := List.getElem?_eq_some_iff.1 hu
  obtain ⟨hi, rfl⟩ := List.getElem?_eq_some_iff.1 ht
  exact List.pairwise_iff_getElem.1 h.ord j i hj hi hij
theorem Ok.unlike {K : List TxD} (h : Ok K) {i j : Nat} {u t : TxD} (hu : K[j]? = some u) (ht : K[i]? = some t) (hij : j ≠ i) : u.id ≠ t.id := fun e => by
  have h1 : (K.map TxD.id)[j]? = some u.id := by rw [List.getElem?_map, hu]; rfl
  have h2 : (K.map TxD.id)[i]? = some t.id := by rw [List.getElem?_map, ht]; rfl
  have hl := (List.getElem?_eq_some_iff.1 h1).1
  exact hij ((List.getElem?_inj hl h.ids).1 (h1.trans ((congrArg some e).trans h2.symm)))
end Mem
/-! ### In whichever order -/
theorem ord_eq : ∀ {X Y : List TxD}, (X.Pairwise fun a b => TxD.less a b = true) → (Y.Pairwise fun a b => TxD.less a b = true) → (∀ x, x ∈ X ↔ x ∈ Y) → X = Y
  | [], [], _, _, _ => rfl
  | [], y :: Y, _, _, h => by have := (h y).2 (List.mem_cons_self ..); cases this
  | x :: X, [], _, _, h => by have := (h x).1 (List.mem_cons_self ..); cases this
  | x :: X, y :: Y, hX, hY, h => by
    have nX := Mem.nodup_of_ord hX
    have nY := Mem.nodup_of_ord hY
    rw [List.pairwise_cons] at hX hY
    rw [List.nodup_cons] at nX nY
    have e : x = y := by
      rcases List.mem_cons.1 ((h x).1 (List.mem_cons_self ..)) with e | h1
      · exact e
      · rcases List.mem_cons.1 ((h y).2 (List.mem_cons_self ..)) with e | h2
        · exact e.symm
        · exact absurd ⟨hX.1 y h2, hY.1 x h1⟩ (TxD.less_one _ _)
    subst e
    rw [ord_eq hX.2 hY.2 fun z => ⟨fun hz => ?_, fun hz => ?_⟩]
    · rcases List.mem_cons.1 ((h z).1 (List.mem_cons_of_mem _ hz)) with e | h1
      · subst e; exact absurd hz nX.1
      · exact h1
    · rcases List.mem_cons.1 ((h z).2 (List.mem_cons_of_mem _ hz)) with e | h1
      · subst e; exact absurd hz nY.1
      · exact h1
theorem pst_mem {l : List TxD} (hn : (l.map TxD.id).Nodup) (h16 : l.length ≤ 16) : ∀ k, k ≤ l.length → (∀ x, x ∈ pst l k ↔ x ∈ l.take k ∧ x.Right) ∧ (pst l k).length ≤ k
  | 0, _ => by rw [pst_zero]; exact ⟨fun x => by simp, by simp⟩
  | k + 1, hk => by
    obtain ⟨ih, hl⟩ := pst_mem hn h16 k (by omega)
    obtain ⟨d, hd⟩ : ∃ d, l[k]? = some d := ⟨_, List.getElem?_eq_getElem (by omega)⟩
    have e : l.take (k + 1) = l.take k ++ [d] := by rw [List.take_add_one, hd]; rfl
    rw [pst_succ hd]
    by_cases hR : d.Right
    · have hno : Mem.hasId (pst l k) d.id = false := by
        rw [Mem.hasId_no]
        intro x hx he
        have hxl := ((ih x).1 hx).1
        obtain ⟨j, hj, rfl⟩ := List.getElem_of_mem hxl
        rw [List.length_take] at hj
        have h1 : (l.map TxD.id)[j]? = some d.id := by rw [List.getElem?_map, List.getElem?_eq_getElem (by omega), ← he, List.getElem_take]; rfl
        have h2 : (l.map TxD.id)[k]? = some d.id := by rw [List.getElem?_map, hd]; rfl
        have := (List.getElem?_inj (by simp; omega) hn).1 (h1.trans h2.symm)
        omega
      have hp := Mem.plc_le (pst l k) d
      rw [Mem.add_c3 hR (by rw [hno]; simp; omega)]
      simp only
      rw [List.take_of_length_le (by rw [Mem.insAt_len]; omega)]
      refine ⟨fun x => ?_, by rw [Mem.insAt_len]; omega⟩
      rw [Mem.insAt_mem, e, List.mem_append, ih x, List.mem_singleton]
      constructor
      · rintro (rfl | h)
        · exact ⟨.inr rfl, hR⟩
        · exact ⟨.inl h.1, h.2⟩
      · rintro ⟨h | rfl, h2⟩
        · exact .inr ⟨h, h2⟩
        · exact .inl rfl
    · rw [Mem.add_c1 hR]
      refine ⟨fun x => ?_, by simp only; omega⟩
      simp only
      rw [e, List.mem_append, ih x, List.mem_singleton]
      constructor
      · rintro ⟨h, h2⟩
        exact ⟨.inl h, h2⟩
      · rintro ⟨h | rfl, h2⟩
        · exact ⟨h, h2⟩
        · exact absurd h2 hR
theorem pst_turns {l : List TxD} (hn : (l.map TxD.id).Nodup) (h16 : l.length ≤ 16) : pst l.reverse l.length = pst l l.length := by
  have hn2 : (l.reverse.map TxD.id).Nodup := by rw [List.map_reverse]; exact (List.reverse_perm _).nodup_iff.2 hn
  have h1 := (pst_mem hn h16 l.length (Nat.le_refl _)).1
  have h2 := (pst_mem hn2 (by simpa using h16) l.length (by simp)).1
  refine ord_eq (pst_ok _ _).ord (pst_ok _ _).ord fun x => ?_
  rw [h1 x, h2 x, List.take_length, ← List.length_reverse, List.take_length, List.mem_reverse]
theorem nodup_snoc {l : List TxD} {k : Nat} {d : TxD} (h : ((l.take k).map TxD.id).Nodup) (hd : l[k]? = some d) (hno : ∀ x ∈ l.take k, x.id ≠ d.id) : ((l.take (k + 1)).map TxD.id).Nodup := by
  rw [List.take_add_one, hd, List.map_append, List.nodup_append]
  refine ⟨h, by simp, fun a ha b hb e => ?_⟩
  obtain ⟨x, hx, rfl⟩ := List.mem_map.1 ha
  simp at hb
  exact hno x hx (e.trans hb)
/-! ### The best one -/
theorem first_plc {K : List TxD} {t : TxD} (h : ∀ x ∈ K, TxD.less t x = true) : Mem.plc K t = 0 := by
  refine Mem.plc_of (Nat.zero_le _) (fun i x hi _ => by omega) fun x hx => ?_
  cases c : TxD.less x t with
  | false => rfl
  | true => exact absurd ⟨c, h x (List.mem_of_getElem? hx)⟩ (TxD.less_one _ _)
end Go.Proofs.Ytdacclcaopmalaa
