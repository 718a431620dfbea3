/- What a block takes of what is offered, from the first one on: plain mathematics. -/
import Derived.Test.YtdoeoncmhaihbaaCHG
namespace Go.Proofs.Ytdoeoncmhaihbaa
set_option maxRecDepth 100000

theorem unu_pre (used : List Int) (l : List TxD) (j : Nat) : unu used (l.take j) <+: unu used l := by
  by_cases h : (unu used (l.take j)).length = 3
  · rw [unu_full h]; exact List.prefix_refl _
  · have e : l = l.take j ++ l.drop j := (List.take_append_drop j l).symm
    conv => rhs; rw [e]
    unfold unu at h ⊢
    rw [List.length_take] at h
    generalize hF : (l.take j).filter (fun t => !decide (t.id ∈ used)) = F at h ⊢
    rw [List.take_of_length_le (l := F) (by omega), List.filter_append, hF, List.take_append, List.take_of_length_le (l := F) (by omega)]
    exact List.prefix_append _ _
section
variable {used : List Int} {l : List TxD} {k : Nat} {t : TxD}
theorem unu_in (h : l[k]? = some t) (ht : t.id ∈ used) : (unu used (l.take (k + 1))).length = (unu used (l.take k)).length := by rw [unu_snoc_no h ht]
theorem unu_room (hl : 3 ≤ (unu used (l.take k)).length) : (unu used (l.take (k + 1))).length = (unu used (l.take k)).length := by
  have := unu_len used (l.take k)
  rw [unu_stop (k := k) (by omega) (k + 1) (by omega)]
theorem unu_next (h : l[k]? = some t) (ht : t.id ∉ used) (hl : ¬ 3 ≤ (unu used (l.take k)).length) : (unu used (l.take (k + 1))).length = (unu used (l.take k)).length + 1 ∧ (unu used l)[(unu used (l.take k)).length]? = some t := by
  have e := unu_snoc_yes h ht (by omega)
  rw [e, List.length_append]
  refine ⟨rfl, ?_⟩
  obtain ⟨r, hr⟩ := unu_pre used l (k + 1)
  rw [← hr, e]; simp
end
theorem mem_take_succ {l : List Int} {k : Nat} {x n : Int} (h : l[k]? = some x) : decide (n ∈ l.take (k + 1)) = (decide (n ∈ l.take k) || (x == n)) := by
  rw [List.take_add_one, h]
  simp only [Option.toList_some, List.mem_append, List.mem_singleton]
  by_cases h1 : n ∈ l.take k
  · simp [h1]
  · by_cases h2 : n = x
    · subst h2; simp
    · have : (x == n) = false := by simpa using fun e => h2 e.symm
      simp [h1, h2, this]
end Go.Proofs.Ytdoeoncmhaihbaa
