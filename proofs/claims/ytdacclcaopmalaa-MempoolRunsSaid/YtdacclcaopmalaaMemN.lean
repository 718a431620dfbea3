/- A pool of transactions, as plain mathematics. -/
import Derived.Test.YtdacclcaopmalaaFM
namespace Go.Proofs.Ytdacclcaopmalaa
set_option maxRecDepth 100000

namespace Mem
def hasId (l : List TxD) (n : Int) : Bool := l.any fun x => x.id == n
theorem hasId_iff {l : List TxD} {n : Int} : hasId l n = true ↔ ∃ x ∈ l, x.id = n := by simp [hasId]
theorem hasId_no {l : List TxD} {n : Int} : hasId l n = false ↔ ∀ x ∈ l, x.id ≠ n := by simp [hasId]
/-- How many go ahead of it. -/
def plc : List TxD → TxD → Nat
  | [], _ => 0
  | x :: l, t => if TxD.less x t = true then plc l t + 1 else 0
def insAt (l : List TxD) (k : Nat) (t : TxD) : List TxD := l.take k ++ t :: l.drop k
def add (l : List TxD) (t : TxD) : List TxD × Int :=
  if ¬ t.Right then (l, 61) else if hasId l t.id = true ∨ 16 ≤ plc l t then (l, 91) else ((insAt l (plc l t) t).take 16, 0)
def drop (l : List TxD) (ids : List Int) : List TxD := l.filter fun t => !decide (t.id ∈ ids)
def pick (l : List TxD) (many : Int) (skip : List Int) : List TxD := (drop l skip).take many.toNat

theorem plc_le : ∀ (l : List TxD) (t : TxD), plc l t ≤ l.length
  | [], _ => Nat.le_refl _
  | x :: l, t => by
    have := plc_le l t
    simp only [plc, List.length_cons]; split <;> omega
theorem plc_lt : ∀ {l : List TxD} {t : TxD} {i : Nat} {x : TxD}, l[i]? = some x → i < plc l t → TxD.less x t = true
  | [], _, i, x, h, _ => by simp at h
  | y :: l, t, i, x, h, hi => by
    simp only [plc] at hi
    split at hi
    · rename_i hy
      cases i with
      | zero => simp at h; subst h; exact hy
      | succ i => exact plc_lt (by simpa using h) (by omega)
    · omega
theorem plc_at : ∀ {l : List TxD} {t : TxD} {x : TxD}, l[plc l t]? = some x → TxD.less x t = false
  | [], _, x, h => by simp at h
  | y :: l, t, x, h => by
    simp only [plc] at h
    split at h
    · exact plc_at (by simpa using h)
    · rename_i hy
      simp at h; subst h; simpa using hy
theorem plc_of : ∀ {l : List TxD} {t : TxD} {k : Nat}, k ≤ l.length → (∀ i x, i < k → l[i]? = some x → TxD.less x t = true) → (∀ x, l[k]? = some x → TxD.less x t = false) → plc l t = k
  | [], _, k, h, _, _ => by simp at h; subst h; rfl
  | y :: l, t, 0, _, _, h => by simp [plc, h y (by simp)]
  | y :: l, t, k + 1, hk, h1, h2 => by
    have hy := h1 0 y (by omega) rfl
    simp only [plc, hy, if_true]
    rw [plc_of (by simpa using hk) (fun i x hi hx => h1 (i + 1) x (by omega) (by simpa using hx)) fun x hx => h2 x (by simpa using hx)]
structure Ok (l : List TxD) : Prop where
  ord : l.Pairwise fun a b => TxD.less a b = true
  ids : (l.map TxD.id).Nodup
  right : ∀ t ∈ l, t.Right
  few : l.length ≤ 16
theorem Ok.nil : Ok [] := ⟨List.Pairwise.nil, List.nodup_nil, fun _ h => by simp at h, by simp⟩
theorem Ok.sub {l m : List TxD} (h : Ok l) (hs : m.Sublist l) : Ok m :=
  ⟨h.ord.sublist hs, h.ids.sublist (hs.map _), fun t ht => h.right t (hs.subset ht), Nat.le_trans hs.length_le h.few⟩
theorem Ok.drop {l : List TxD} (h : Ok l) (ids : List Int) : Ok (Mem.drop l ids) := h.sub List.filter_sublist
theorem insAt_mem {l : List TxD} {k : Nat} {t x : TxD} : x ∈ insAt l k t ↔ x = t ∨ x ∈ l := by
  have e : x ∈ l ↔ x ∈ l.take k ∨ x ∈ l.drop k := by rw [← List.mem_append, List.take_append_drop]
  unfold insAt
  rw [List.mem_append, List.mem_cons, e]
  exact ⟨fun h => h.elim (fun h => .inr (.inl h)) fun h => h.elim .inl fun h => .inr (.inr h), fun h => h.elim (fun h => .inr (.inl h)) fun h => h.elim .inl fun h => .inr (.inr h)⟩
theorem insAt_len {l : List TxD} {k : Nat} {t : TxD} : (insAt l k t).length = l.length + 1 := by
  unfold insAt; simp; omega
theorem nodup_of_ord : ∀ {l : List TxD}, (l.Pairwise fun a b => TxD.less a b = true) → l.Nodup
  | [], _ => List.nodup_nil
  | x :: l, h => by
    rw [List.pairwise_cons] at h
    rw [List.nodup_cons]
    exact ⟨fun hx => (by have := h.1 x hx; rw [TxD.less_irrefl] at this; cases this), nodup_of_ord h.2⟩
/-- Whoever goes ahead of one goes ahead of all behind it. -/
theorem Ok.place {l : List TxD} (h : l.Pairwise fun a b => TxD.less a b = true) {t : TxD} (hn : hasId l t.id = false) :
    (∀ x ∈ l.take (plc l t), TxD.less x t = true) ∧ ∀ x ∈ l.drop (plc l t), TxD.less t x = true := by
  induction l with
  | nil => exact ⟨fun x hx => by simp at hx, fun x hx => by simp at hx⟩
  | cons y l ih =>
    rw [List.pairwise_cons] at h
    have hn' := hasId_no.1 hn
    obtain ⟨i1, i2⟩ := ih h.2 (hasId_no.2 fun x hx => hn' x (List.mem_cons_of_mem _ hx))
    simp only [plc]
    by_cases hy : TxD.less y t = true
    · rw [if_pos hy]
      refine ⟨fun x hx => ?_, fun x hx => i2 x (by simpa using hx)⟩
      rw [List.take_succ_cons] at hx
      rcases List.mem_cons.1 hx with rfl | hx
      · exact hy
      · exact i1 x hx
    · rw [if_neg hy]
      have hty : TxD.less t y = true := by
        cases hc : TxD.less t y with
        | true => rfl
        | false => exact absurd (congrArg TxD.id (TxD.less_tot (by simpa using hy) hc)) (hn' y (List.mem_cons_self ..))
      refine ⟨fun x hx => by simp at hx, fun x hx => ?_⟩
      rcases List.mem_cons.1 hx with rfl | hx
      · exact hty
      · exact TxD.less_trans hty (h.1 x hx)
theorem insAt_ord {l : List TxD} (h : l.Pairwise fun a b => TxD.less a b = true) {t : TxD} (hn : hasId l t.id = false) : (insAt l (plc l t) t).Pairwise fun a b => TxD.less a b = true := by
  obtain ⟨h1, h2⟩ := Ok.place h hn
  have hl := List.take_append_drop (plc l t) l
  unfold insAt
  rw [← hl] at h
  rw [List.pairwise_append] at h
  rw [List.pairwise_append, List.pairwise_cons]
  refine ⟨h.1, ⟨h2, h.2.1⟩, fun a ha b hb => ?_⟩
  rcases List.mem_cons.1 hb with rfl | hb
  · exact h1 a ha
  · exact h.2.2 a ha b hb
theorem insAt_ids {l : List TxD} (h : (l.map TxD.id).Nodup) {t : TxD} (k : Nat) (hn : hasId l t.id = false) : ((insAt l k t).map TxD.id).Nodup := by
  have hl := List.take_append_drop k l
  have hp : (insAt l k t).Perm (t :: l) := by
    unfold insAt
    refine List.perm_middle.trans (List.Perm.cons _ ?_)
    rw [hl]
  rw [(hp.map TxD.id).nodup_iff, List.map_cons, List.nodup_cons]
  refine ⟨fun hm => ?_, h⟩
  obtain ⟨x, hx, he⟩ := List.mem_map.1 hm
  exact hasId_no.1 hn x hx he
theorem Ok.add {l : List TxD} (h : Ok l) (t : TxD) : Ok (Mem.add l t).1 := by
  unfold Mem.add
  split
  · exact h
  · rename_i hr
    split
    · exact h
    · rename_i hc
      have hn : hasId l t.id = false := by
        cases hh : hasId l t.id with
        | true => exact absurd (.inl hh) hc
        | false => rfl
      have hr' : t.Right := Classical.not_not.1 hr
      have hs : ((insAt l (plc l t) t).take 16).Sublist (insAt l (plc l t) t) := List.take_sublist _ _
      refine ⟨(insAt_ord h.ord hn).sublist hs, (insAt_ids h.ids _ hn).sublist (hs.map _), fun x hx => ?_, by rw [List.length_take]; omega⟩
      rcases insAt_mem.1 (hs.subset hx) with rfl | hx
      · exact hr'
      · exact h.right x hx
theorem add_c1 {l : List TxD} {t : TxD} (h : ¬ t.Right) : add l t = (l, 61) := if_pos h
theorem add_c2 {l : List TxD} {t : TxD} (h : t.Right) (hc : hasId l t.id = true ∨ 16 ≤ plc l t) : add l t = (l, 91) := by rw [add, if_neg (fun h' => h' h), if_pos hc]
theorem add_c3 {l : List TxD} {t : TxD} (h : t.Right) (hc : ¬ (hasId l t.id = true ∨ 16 ≤ plc l t)) : add l t = ((insAt l (plc l t) t).take 16, 0) := by rw [add, if_neg (fun h' => h' h), if_neg hc]

/-! ### The document's way to add -/
theorem take_insAt {l : List TxD} {m k : Nat} {t x : TxD} (hm : m ≤ k) (hx : l[k]? = some x) : insAt (l.take k) m t ++ [x] = insAt (l.take (k + 1)) m t := by
  have hk := (List.getElem?_eq_some_iff.1 hx).1
  have e : l.take (k + 1) = l.take k ++ [x] := by rw [List.take_add_one, hx]; rfl
  unfold insAt
  rw [e, List.take_append_of_le_length (by simp; omega), List.drop_append_of_le_length (by simp; omega)]
  simp
theorem insAt_end {l : List TxD} {k : Nat} {t x : TxD} (hx : l[k]? = some x) : l.take k ++ [t] ++ [x] = insAt (l.take (k + 1)) k t := by
  have hk := (List.getElem?_eq_some_iff.1 hx).1
  have e : l.take (k + 1) = l.take k ++ [x] := by rw [List.take_add_one, hx]; rfl
  unfold insAt
  rw [e, List.take_left' (by simp; omega), List.drop_left' (by simp; omega)]
  simp
theorem less_at {l : List TxD} {t x : TxD} {k : Nat} (hn : x.id ≠ t.id) (hx : l[k]? = some x) (hk : k ≤ plc l t) : TxD.less t x = decide (k = plc l t) := by
  by_cases he : k = plc l t
  · rw [decide_eq_true he]
    cases hc : TxD.less t x with
    | true => rfl
    | false => exact absurd (congrArg TxD.id (TxD.less_tot (plc_at (he ▸ hx)) hc)) hn
  · rw [decide_eq_false he]
    have h1 := plc_lt (t := t) hx (by omega)
    cases hc : TxD.less t x with
    | false => rfl
    | true => exact absurd ⟨h1, hc⟩ (TxD.less_one _ _)
theorem plc_full {l : List TxD} {t : TxD} (h : l.length ≤ plc l t) : insAt l (plc l t) t = l ++ [t] := by
  unfold insAt
  rw [List.take_of_length_le h, List.drop_eq_nil_of_le h]
theorem drop_ids {l : List TxD} : Mem.drop l [] = l := by simp [Mem.drop]
end Mem
end Go.Proofs.Ytdacclcaopmalaa
