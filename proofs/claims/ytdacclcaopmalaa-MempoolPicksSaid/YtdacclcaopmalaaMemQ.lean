/- What is picked, and what is left, as plain mathematics. -/
import Derived.Test.YtdacclcaopmalaaMemP
namespace Go.Proofs.Ytdacclcaopmalaa
set_option maxRecDepth 100000

theorem drop_sub (l : List TxD) (ids : List Int) : (Mem.drop l ids).Sublist l := List.filter_sublist
theorem pick_sub (l : List TxD) (many : Int) (skip : List Int) : (Mem.pick l many skip).Sublist l := (List.take_sublist _ _).trans (drop_sub l skip)
theorem filter_sub : ∀ {Z K : List TxD}, Z.Sublist K → (K.map TxD.id).Nodup → K.filter (fun t => decide (t.id ∈ Z.map TxD.id)) = Z
  | _, _, .slnil, _ => rfl
  | Z, a :: K, .cons _ h, hn => by
    rw [List.map_cons, List.nodup_cons] at hn
    rw [List.filter_cons_of_neg]
    · exact filter_sub h hn.2
    · simp only [decide_eq_true_eq]
      exact fun hm => hn.1 ((h.map TxD.id).subset hm)
  | a :: Z, _ :: K, .cons_cons _ h, hn => by
    rw [List.map_cons, List.nodup_cons] at hn
    rw [List.filter_cons_of_pos (by simp)]
    congr 1
    rw [← filter_sub h hn.2]
    refine List.filter_congr fun t ht => ?_
    rw [filter_sub h hn.2]
    have hne : t.id ≠ a.id := fun e => hn.1 (e ▸ List.mem_map.2 ⟨t, ht, rfl⟩)
    simp [hne]
theorem filter_two (p : TxD → Bool) : ∀ K : List TxD, (K.filter p).length + (K.filter fun t => !p t).length = K.length
  | [] => rfl
  | a :: K => by
    have := filter_two p K
    cases h : p a <;> simp [h] <;> omega
section
variable {K : List TxD} {many : Int} {skip : List Int} {t u : TxD}
theorem pick_not (hu : u ∈ Mem.pick K many skip) : u.id ∉ skip := by
  have h1 := List.mem_of_mem_take hu
  have h2 := (List.mem_filter.1 h1).2
  simpa using h2
theorem pick_count (h : Mem.Ok K) : (Mem.pick K many skip).length + (Mem.drop K ((Mem.pick K many skip).map TxD.id)).length = K.length := by
  have h1 := filter_sub (pick_sub K many skip) h.ids
  have h2 := filter_two (fun t => decide (t.id ∈ (Mem.pick K many skip).map TxD.id)) K
  rw [h1] at h2
  exact h2
theorem pick_most : ((Mem.pick K many skip).length : Int) ≤ max 0 many := by
  unfold Mem.pick; rw [List.length_take]; omega
theorem left_in (ht : t ∈ Mem.drop K ((Mem.pick K many skip).map TxD.id)) : t ∈ K ∧ ∀ u ∈ Mem.pick K many skip, u.id ≠ t.id := by
  obtain ⟨h1, h2⟩ := List.mem_filter.1 ht
  refine ⟨h1, fun u hu e => ?_⟩
  simp at h2
  exact h2 u hu e
theorem left_behind (ht : t ∈ Mem.drop K ((Mem.pick K many skip).map TxD.id)) (hs : t.id ∉ skip) : t ∈ (Mem.drop K skip).drop many.toNat := by
  obtain ⟨h1, h2⟩ := left_in ht
  have hd : t ∈ Mem.drop K skip := List.mem_filter.2 ⟨h1, by simpa using hs⟩
  rw [← List.take_append_drop many.toNat (Mem.drop K skip)] at hd
  rcases List.mem_append.1 hd with h | h
  · exact absurd rfl (h2 t h)
  · exact h
theorem left_less (h : Mem.Ok K) (ht : t ∈ Mem.drop K ((Mem.pick K many skip).map TxD.id)) (hs : t.id ∉ skip) (hu : u ∈ Mem.pick K many skip) : TxD.less u t = true := by
  have hd := left_behind ht hs
  have hp := (h.drop skip).ord
  rw [← List.take_append_drop many.toNat (Mem.drop K skip), List.pairwise_append] at hp
  exact hp.2.2 u hu t hd
theorem left_full (ht : t ∈ Mem.drop K ((Mem.pick K many skip).map TxD.id)) (hs : t.id ∉ skip) : ¬ ((Mem.pick K many skip).length : Int) < many := by
  have hd := left_behind ht hs
  have hl : 0 < ((Mem.drop K skip).drop many.toNat).length := List.length_pos_of_mem hd
  rw [List.length_drop] at hl
  unfold Mem.pick; rw [List.length_take]; omega
end
end Go.Proofs.Ytdacclcaopmalaa
