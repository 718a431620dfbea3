/- What a chain holds was won in a slot that is there: plain mathematics. -/
import Derived.Test.YtpnbkgeglgiihaaCHG
namespace Go.Proofs.Ytpnbkgeglgiihaa
set_option maxRecDepth 100000
open Go.RowKit

/-- Nothing comes in but what is added. -/
theorem add_sub {t : TrS} (h : TrS.Good t) (d : BlkD) : ∀ x ∈ (TrS.add t d).1.known ++ (TrS.add t d).1.wait, x ∈ t.known ++ t.wait ∨ x = d := by
  obtain ⟨K, V⟩ := t
  intro x hx
  by_cases hc : d.name = 0 ∨ TrS.has K d.name = true ∨ TrS.has V d.name = true
  · rw [add_c1 hc] at hx; exact .inl hx
  cases hr : TrS.ready K d
  · rw [add_c2 hc hr] at hx
    simp only [List.mem_append] at hx ⊢
    rcases hx with hx | hx
    · exact .inl (.inl hx)
    · have : x ∈ V ++ [d] := by
        unfold pushQ at hx
        split at hx
        · exact List.mem_of_mem_drop hx
        · exact hx
      rcases List.mem_append.1 this with h1 | h1
      · exact .inl (.inr h1)
      · exact .inr (List.mem_singleton.1 h1)
  · by_cases hk : K.length < 400
    · rw [add_c4 hc hr hk] at hx
      obtain ⟨⟨r, hp⟩, _⟩ := TrS.drain_more V.length (K ++ [d]) V [] (by simp; omega)
      have := hp.mem_iff.1 (List.mem_append_left r hx)
      simp only [List.mem_append, List.mem_singleton] at this ⊢
      rcases this with (h1 | h1) | h1
      · exact .inl (.inl h1)
      · exact .inr h1
      · exact .inl (.inr h1)
    · rw [add_c3 hc hr hk] at hx; exact .inl hx
/-- All of it was won, in a slot that is there. -/
def Won (ds : List Int) (slot : Int) (t : TrS) : Prop := ∀ b ∈ t.known ++ t.wait, win ds b.slot b.miner = true ∧ b.slot ≤ slot
section
variable {ds : List Int} {slot slot' : Int} {t : TrS} {b : BlkD}
theorem Won.nil : Won ds slot ⟨[], []⟩ := fun b hb => by simp at hb
theorem Won.next (h : Won ds slot t) (hs : slot ≤ slot') : Won ds slot' t := fun b hb => ⟨(h b hb).1, Int.le_trans (h b hb).2 hs⟩
theorem tkOk_iff (h : tkOk ds slot t b = true) : b.slot ≤ slot ∧ win ds b.slot b.miner = true ∧ (TrS.add t b).2.2 = true := by
  unfold tkOk at h
  simp only [Bool.and_eq_true, Bool.not_eq_true', decide_eq_false_iff_not] at h
  exact ⟨by omega, h.1.2, h.2⟩
theorem Won.take (h : Won ds slot t) (hg : TrS.Good t) : Won ds slot (tkT ds slot t b) := by
  cases hk : tkOk ds slot t b
  · rw [(tk_no hk).1]; exact h
  · rw [(tk_yes hk).1]
    obtain ⟨h1, h2, _⟩ := tkOk_iff hk
    intro x hx
    rcases add_sub hg b x hx with h3 | rfl
    · exact h x h3
    · exact ⟨h2, h1⟩
/-- The names that are answered. -/
theorem Won.names (h : Won ds slot t) (hg : TrS.Good t) (hk : tkOk ds slot t b = true) : ∀ n ∈ tkL ds slot t b, I64 n ∧ win ds (nmS n) (nmM n) = true ∧ nmS n ≤ slot := by
  have hw := h.take (b := b) hg
  have hg2 := tkT_good (ds := ds) (slot := slot) (b := b) hg
  rw [(tk_yes hk).1] at hw hg2
  rw [(tk_yes hk).2.1]
  obtain ⟨m, h1, h2⟩ := add_known (d := b) hg
  intro n hn
  rw [h2] at hn
  obtain ⟨x, hx, rfl⟩ := List.mem_map.1 hn
  have hxk : x ∈ (TrS.add t b).1.known ++ (TrS.add t b).1.wait := List.mem_append_left _ (by rw [h1]; exact List.mem_append_right _ hx)
  have hr := hg2.right x hxk
  obtain ⟨p1, p2, _, p4⟩ := hr.parts
  have e1 : nmS x.name = x.slot := by rw [hr.nm, nmS, if_pos p4, p1]
  have e2 : nmM x.name = x.miner := by rw [hr.nm, nmM, if_pos p4]; exact p2
  rw [e1, e2]
  exact ⟨hr.i64, hw x hxk⟩
end
end Go.Proofs.Ytpnbkgeglgiihaa
