/- Records of a journal, as the program reads them, are the document's. No program. -/
import Derived.Test.YtabbgnlabiakoaaJrnN
namespace Go.Proofs.Ytabbgnlabiakoaa

theorem rd_was {l : List Nat} (hl : ∀ x ∈ l, x < 256) (h : (rd l).2 ≠ 0) : l = numL (rd l).1 ++ rdRest l ∧ W64 (rd l).1 := by
  obtain ⟨⟨s, hs⟩, hlen, hw⟩ := rd_some hl h
  refine ⟨?_, hw⟩
  rw [rdRest, if_neg h, hlen]
  have : l.drop (numL (rd l).1).length = s := by
    have h2 : (numL (rd l).1 ++ s).drop (numL (rd l).1).length = s := List.drop_left
    rwa [hs] at h2
  rw [this]; exact hs.symm
/-- What is read as numbers were they. -/
theorem rns_was : ∀ (k : Nat) (l : List Nat) (xs : List Int) (s : List Nat), (∀ x ∈ l, x < 256) → rns k l = some (xs, s) → l = nuL xs ++ s ∧ xs.length = k ∧ ∀ x ∈ xs, -1 ≤ x ∧ x ≤ 4611686018427387904
  | 0, l, xs, s, _, h => by
    simp only [rns, Option.some.injEq, Prod.mk.injEq] at h
    obtain ⟨rfl, rfl⟩ := h
    exact ⟨by simp [nuL], rfl, by simp⟩
  | k + 1, l, xs, s, hl, h => by
    by_cases hc : (rd l).2 = 0 ∨ 4611686018427387905 < (rd l).1
    · rw [rns_none hc] at h; cases h
    · have h0 : (rd l).2 ≠ 0 := fun e => hc (.inl e)
      rw [rns_step h0 (fun e => hc (.inr e))] at h
      cases hr : rns k (rdRest l) with
      | none => rw [hr] at h; cases h
      | some p =>
        obtain ⟨ys, t⟩ := p
        rw [hr] at h
        simp only [Option.map_some, Option.some.injEq, Prod.mk.injEq] at h
        obtain ⟨rfl, rfl⟩ := h
        obtain ⟨h1, h2, h3⟩ := rns_was k (rdRest l) ys t (rdRest_lt' hl) hr
        obtain ⟨hd, hw⟩ := rd_was hl h0
        refine ⟨?_, by simp [h2], fun x hx => ?_⟩
        · have e : (((rd l).1 : Int) - 1 + 1).toNat = (rd l).1 := by omega
          rw [nuL, e, List.append_assoc, ← h1]; exact hd
        · rcases List.mem_cons.1 hx with rfl | hx
          · omega
          · exact h3 x hx
theorem numL_len5 {n : Nat} (h : n ≤ 1073741825) : (numL n).length ≤ 5 := by
  have step : ∀ {m}, 128 ≤ m → (numL m).length = (numL (m / 128)).length + 1 := fun {m} hm => by rw [numL_big hm]; simp
  have small : ∀ {m}, m < 128 → (numL m).length = 1 := fun {m} hm => by rw [numL_small hm]; rfl
  by_cases h1 : n < 128
  · rw [small h1]; omega
  rw [step (by omega)]
  by_cases h2 : n / 128 < 128
  · rw [small h2]; omega
  rw [step (by omega)]
  by_cases h3 : n / 128 / 128 < 128
  · rw [small h3]; omega
  rw [step (by omega)]
  by_cases h4 : n / 128 / 128 / 128 < 128
  · rw [small h4]; omega
  rw [step (by omega), small (by omega)]; omega
theorem numL_len2 {n : Nat} (h : n < 16384) : (numL n).length ≤ 2 := by
  by_cases h1 : n < 128
  · rw [numL_small h1]; simp
  · rw [numL_big (by omega), List.length_cons, numL_small (by omega)]; simp
theorem nuL_len5 : ∀ l : List Int, (∀ x ∈ l, x ≤ 1073741824) → (nuL l).length ≤ 5 * l.length
  | [], _ => by simp [nuL]
  | x :: r, h => by
    have h1 := numL_len5 (n := (x + 1).toNat) (by have := h x (List.mem_cons_self ..); omega)
    have h2 := nuL_len5 r fun y hy => h y (List.mem_cons_of_mem _ hy)
    simp [nuL]; omega
theorem RecD.pay_len2 {r : RecD} (h : r.Ok) : r.pay.length ≤ 1046 := by
  have ht := h.2.2.2.2
  have h1 := nuL_len5 r.nums fun x hx => by
    obtain ⟨h1, h2, h3, h4, _⟩ := h
    unfold N30 at *
    simp [RecD.nums] at hx
    rcases hx with rfl | rfl | rfl | rfl <;> omega
  have h2 := numL_len2 (n := r.t.length) (by omega)
  rw [RecD.pay, txL_small (by omega)]
  simp [RecD.nums] at h1 ⊢; omega
theorem RecD.bs_len2 {r : RecD} (h : r.Ok) : r.bs.length ≤ 1048 := by
  have h1 := r.pay_len2 h
  have h2 := numL_len2 (n := r.pay.length) (by omega)
  rw [r.bs_eq h]; simp; omega

def RecD.zero : RecD := ⟨0, 0, 0, 0, []⟩
/-- What is told of a record that isn't there. -/
def orZ (o : Option RecD) : RecD := match o with | some r => r | none => RecD.zero
/-- The record of which all of b is the inside. -/
def inner (b : List Nat) : Option RecD := match rns 4 b with
  | some ([k, i, v, x], s) => if RtOk s ∧ rtRest s = [] ∧ (⟨k, i, v, x, rtL s⟩ : RecD).Ok then some ⟨k, i, v, x, rtL s⟩ else none
  | _ => none
theorem inner_pay {r : RecD} (h : r.Ok) : inner r.pay = some r := by
  obtain ⟨h4, h5, h6⟩ := rt_pre (t := r.t) (by have := h.2.2.2.2; omega) []
  rw [List.append_nil] at h4 h5 h6
  unfold inner
  have e : rns 4 r.pay = some ([r.k, r.i, r.v, r.x], txL r.t) := rns4_pay h (txL r.t)
  rw [e]
  have e2 : (⟨r.k, r.i, r.v, r.x, rtL (txL r.t)⟩ : RecD) = r := by rw [h5]
  show (if RtOk (txL r.t) ∧ rtRest (txL r.t) = [] ∧ (⟨r.k, r.i, r.v, r.x, rtL (txL r.t)⟩ : RecD).Ok then some (⟨r.k, r.i, r.v, r.x, rtL (txL r.t)⟩ : RecD) else none) = some r
  rw [e2, if_pos ⟨h4, h6, h⟩]
theorem inner_some {b : List Nat} (hb : ∀ x ∈ b, x < 256) {r : RecD} (h : inner b = some r) : r.Ok ∧ b = r.pay := by
  unfold inner at h
  split at h
  · rename_i k i v x s hr
    split at h
    · rename_i hc
      obtain ⟨c1, c2, c3⟩ := hc
      cases h
      obtain ⟨h1, _, _⟩ := rns_was 4 b _ s hb hr
      have hs : ∀ x ∈ s, x < 256 := fun y hy => hb y (by rw [h1]; exact List.mem_append_right _ hy)
      obtain ⟨h2, _⟩ := rt_was hs c1
      rw [c2, List.append_nil] at h2
      refine ⟨c3, ?_⟩
      show b = nuL [k, i, v, x] ++ txL (rtL s)
      rw [← h2]; exact h1
    · cases h
  · cases h
/-- The record with which bytes begin, as the program reads it: of the first 1048 of them. -/
def fstP (l : List Nat) : Option (RecD × Nat) := if RtOk (l.take 1048) then (inner (rtL (l.take 1048))).map fun r => (r, (l.take 1048).length - (rtRest (l.take 1048)).length) else none
theorem rtL_lt {l : List Nat} (hl : ∀ x ∈ l, x < 256) : ∀ x ∈ rtL l, x < 256 := by
  intro x hx
  unfold rtL at hx
  split at hx
  · exact hl x (List.mem_of_mem_take (List.mem_of_mem_drop hx))
  · simp at hx
theorem rtL_len (l : List Nat) : (rtL l).length ≤ l.length := by
  unfold rtL
  split <;> simp; omega
theorem rtRest_len (l : List Nat) : (rtRest l).length ≤ l.length := by
  unfold rtRest
  split <;> simp
theorem rtRest_lt {l : List Nat} (hl : ∀ x ∈ l, x < 256) : ∀ x ∈ rtRest l, x < 256 := by
  intro x hx
  unfold rtRest at hx
  split at hx
  · exact hl x (List.mem_of_mem_drop hx)
  · simp at hx
theorem fstP_eq {l : List Nat} (hl : ∀ x ∈ l, x < 256) : fstP l = (fst l).map fun r => (r, r.bs.length) := by
  have hl2 : ∀ x ∈ l.take 1048, x < 256 := fun x hx => hl x (List.mem_of_mem_take hx)
  cases hf : fst l with
  | some r =>
    obtain ⟨h1, h2⟩ := fst_some hf
    have h3 : r.bs <+: l.take 1048 := by
      obtain ⟨s, rfl⟩ := h2
      rw [List.take_append, List.take_of_length_le (r.bs_len2 h1)]
      exact List.prefix_append _ _
    obtain ⟨s, hs⟩ := h3
    obtain ⟨g1, g2, g3⟩ := rt_pre (t := r.pay) (by have := r.pay_len h1; omega) s
    unfold fstP
    rw [← hs]
    unfold RecD.bs
    rw [if_pos g1, g2, g3, inner_pay h1]
    simp
  | none =>
    unfold fstP
    split
    · rename_i hr
      cases hi : inner (rtL (l.take 1048)) with
      | none => rfl
      | some r =>
        exfalso
        obtain ⟨h1, h2⟩ := inner_some (rtL_lt hl2) hi
        obtain ⟨h3, _⟩ := rt_was hl2 hr
        have : r.bs <+: l := by
          refine List.IsPrefix.trans ?_ (List.take_prefix 1048 l)
          unfold RecD.bs
          rw [← h2]
          exact ⟨_, h3.symm⟩
        rw [fst_yes h1 this] at hf; cases hf
    · rfl
end Go.Proofs.Ytabbgnlabiakoaa
