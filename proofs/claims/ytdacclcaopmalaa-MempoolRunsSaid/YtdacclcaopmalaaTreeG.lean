/- What holds of a tree behind whatever came, as plain mathematics. No program. -/
import Derived.Test.YtdacclcaopmalaaTreeQ
namespace Go.Proofs.Ytdacclcaopmalaa
set_option maxRecDepth 100000
namespace TrS

theorem drain_more : ∀ (f : Nat) (K W : List BlkD) (o : List Int), K.length ≤ 400 →
    let d := drain f K W o
    (∃ r, (d.1 ++ d.2.1 ++ r).Perm (K ++ W)) ∧ d.1.length ≤ 400 ∧ ∃ n, d.1 = K ++ n ∧ d.2.2 = o ++ n.map BlkD.name
  | 0, K, W, o, hk => ⟨⟨[], by simp [drain]⟩, hk, [], by simp [drain], by simp [drain]⟩
  | f + 1, K, W, o, hk => by
    cases hp : pick K W with
    | none =>
      simp only [drain, hp]
      exact ⟨⟨[], by simp⟩, hk, [], by simp, by simp⟩
    | some p =>
      obtain ⟨x, r⟩ := p
      obtain ⟨_, h2⟩ := pick_some hp
      simp only [drain, hp]
      split
      · rename_i hK
        obtain ⟨⟨q, g1⟩, g2, n, g3, g4⟩ := drain_more f (K ++ [x]) r (o ++ [x.name]) (by rw [List.length_append, List.length_singleton]; omega)
        refine ⟨⟨q, g1.trans ?_⟩, g2, x :: n, ?_, ?_⟩
        · rw [List.append_assoc]
          exact List.Perm.append_left K h2.symm
        · rw [g3]; simp
        · rw [g4]; simp
      · obtain ⟨⟨q, g1⟩, g2, n, g3, g4⟩ := drain_more f K r o hk
        refine ⟨⟨q ++ [x], ?_⟩, g2, n, g3, g4⟩
        rw [← List.append_assoc]
        have e1 : (drain f K r o).1 ++ (drain f K r o).2.1 ++ q ++ [x] = ((drain f K r o).1 ++ (drain f K r o).2.1 ++ q) ++ [x] := rfl
        rw [e1]
        refine (List.Perm.append_right [x] g1).trans ?_
        rw [List.append_assoc]
        refine List.Perm.append_left K ?_
        exact (List.perm_append_comm (l₁ := r) (l₂ := [x])).trans h2.symm
/-- Blocks that can be; of unlike names; each known one stands; few wait, and of these none could be known. -/
structure Good (t : TrS) : Prop where
  right : ∀ b ∈ t.known ++ t.wait, b.Right
  nodup : ((t.known ++ t.wait).map BlkD.name).Nodup
  stood : Stood t.known
  calm : ∀ x ∈ t.wait, ready t.known x = false
  few : t.wait.length ≤ 16
  room : t.known.length ≤ 400
theorem uq_of {K : List BlkD} (h : ∀ b ∈ K, b.Right) (hn : (K.map BlkD.name).Nodup) : Uq K := by
  refine ⟨h, ?_⟩
  clear h
  induction K with
  | nil => intro a ha; simp at ha
  | cons x K ih =>
    rw [List.map_cons, List.nodup_cons] at hn
    intro a ha b hb he
    rcases List.mem_cons.1 ha with e1 | h1 <;> rcases List.mem_cons.1 hb with e2 | h2
    · rw [e1, e2]
    · exact (hn.1 (List.mem_map.2 ⟨b, h2, by rw [← he, e1]⟩)).elim
    · exact (hn.1 (List.mem_map.2 ⟨a, h1, by rw [he, e2]⟩)).elim
    · exact ih hn.2 a h1 b h2 he
theorem Good.uq {t : TrS} (h : Good t) : Uq t.known := uq_of (fun b hb => h.right b (List.mem_append_left _ hb)) (by
  have := h.nodup; rw [List.map_append] at this; exact (List.nodup_append.1 this).1)
theorem Good.nil : Good ⟨[], []⟩ := ⟨by simp, by simp, .nil, by simp, by simp, by simp⟩
theorem has_false {K : List BlkD} {n : Int} : has K n = false ↔ ∀ x ∈ K, x.name ≠ n := by simp [has]
/-- What Add leaves: still good; what was known is known, and those whose names are answered, in that order; it changes nothing where it says no. -/
theorem Good.add {t : TrS} (h : Good t) {b : BlkD} (hb : b.Right ∨ b.name = 0) : let d := TrS.add t b
    Good d.1 ∧ (∃ n, d.1.known = t.known ++ n ∧ d.2.1 = n.map BlkD.name) ∧ (d.2.2 = false → d.1 = t ∧ d.2.1 = []) := by
  unfold TrS.add
  split
  · exact ⟨h, ⟨[], by simp, by simp⟩, fun _ => ⟨rfl, rfl⟩⟩
  · rename_i hc
    have hc1 : b.name ≠ 0 := fun e => hc (.inl e)
    have hc2 : has t.known b.name = false := by
      cases hh : has t.known b.name with
      | false => rfl
      | true => exact absurd (.inr (.inl hh)) hc
    have hc3 : has t.wait b.name = false := by
      cases hh : has t.wait b.name with
      | false => rfl
      | true => exact absurd (.inr (.inr hh)) hc
    have hr : b.Right := hb.resolve_right hc1
    have hnot : b.name ∉ (t.known ++ t.wait).map BlkD.name := by
      intro hm
      obtain ⟨x, hx, he⟩ := List.mem_map.1 hm
      rcases List.mem_append.1 hx with hx | hx
      · exact has_false.1 hc2 x hx he
      · exact has_false.1 hc3 x hx he
    split
    · rename_i hrd
      split
      · rename_i hlt
        obtain ⟨g1, g2, g3, g4, g5, g6, g7⟩ := drain_spec t.wait.length (t.known ++ [b]) t.wait [b.name] (Nat.le_refl _) (.snoc h.stood hrd)
        obtain ⟨⟨r, m1⟩, m2, n, m3, m4⟩ := drain_more t.wait.length (t.known ++ [b]) t.wait [b.name] (by rw [List.length_append, List.length_singleton]; omega)
        have hperm : (t.known ++ [b] ++ t.wait).Perm (b :: (t.known ++ t.wait)) := by
          rw [List.append_assoc]
          exact List.perm_middle
        refine ⟨⟨fun x hx => ?_, ?_, g1, g3, Nat.le_trans g4 h.few, m2⟩, ⟨b :: n, ?_, ?_⟩, fun e => by cases e⟩
        · have := (m1.trans hperm).mem_iff.1 (List.mem_append_left r hx)
          rcases List.mem_cons.1 this with rfl | h1
          · exact hr
          · exact h.right x h1
        · have h1 : ((b :: (t.known ++ t.wait)).map BlkD.name).Nodup := by
            rw [List.map_cons]; exact List.nodup_cons.2 ⟨hnot, h.nodup⟩
          have h2 := ((m1.trans hperm).map BlkD.name).nodup_iff.2 h1
          rw [List.map_append] at h2
          exact (List.nodup_append.1 h2).1
        · show (drain _ _ _ _).1 = _
          rw [m3]; simp
        · show (drain _ _ _ _).2.2 = _
          rw [m4]; simp
      · exact ⟨h, ⟨[], by simp, by simp⟩, fun _ => ⟨rfl, rfl⟩⟩
    · rename_i hrd
      have hrd' : ready t.known b = false := by simpa using hrd
      have hall : ∀ x ∈ t.wait ++ [b], ready t.known x = false := fun x hx => by
        rcases List.mem_append.1 hx with hx | hx
        · exact h.calm x hx
        · rw [List.mem_singleton] at hx; rw [hx]; exact hrd'
      have hright : ∀ x ∈ t.known ++ (t.wait ++ [b]), x.Right := fun x hx => by
        rw [← List.append_assoc] at hx
        rcases List.mem_append.1 hx with hx | hx
        · exact h.right x hx
        · rw [List.mem_singleton] at hx; rw [hx]; exact hr
      have hnd : ((t.known ++ (t.wait ++ [b])).map BlkD.name).Nodup := by
        rw [← List.append_assoc, List.map_append]
        refine List.nodup_append.2 ⟨h.nodup, by simp, fun x hx y hy => ?_⟩
        simp only [List.map_cons, List.map_nil, List.mem_singleton] at hy
        subst hy; exact fun e => hnot (e ▸ hx)
      refine ⟨?_, ⟨[], by simp, rfl⟩, fun e => by cases e⟩
      have hlen : (t.wait ++ [b]).length = t.wait.length + 1 := by simp
      have hfew := h.few
      split
      · have hsub : ∀ x ∈ (t.wait ++ [b]).drop 1, x ∈ t.wait ++ [b] := fun x hx => List.mem_of_mem_drop hx
        have hsl : (t.known ++ (t.wait ++ [b]).drop 1).Sublist (t.known ++ (t.wait ++ [b])) := List.Sublist.append_left (List.drop_sublist ..) _
        exact ⟨fun x hx => hright x (hsl.mem hx), (hsl.map BlkD.name).nodup hnd, h.stood, fun x hx => hall x (hsub x hx), by show ((t.wait ++ [b]).drop 1).length ≤ 16; rw [List.length_drop]; omega, h.room⟩
      · exact ⟨hright, hnd, h.stood, hall, by show (t.wait ++ [b]).length ≤ 16; omega, h.room⟩
/-- What is known: its names are rising and as many. -/
theorem Good.names_len {t : TrS} (h : Good t) : (names t.known).length = t.known.length := by
  have := h.nodup; rw [List.map_append] at this
  rw [names, rise_len (List.nodup_append.1 this).1, List.length_map]
end TrS
end Go.Proofs.Ytdacclcaopmalaa
