/- Records of a journal as bytes, as plain mathematics: what is written is read, what is cut off isn't there. No program. · Records of a journal, as the program reads them, are the document's. No program. · Transactions and lists of them as bytes, as plain mathematics: what is written is read, and nothing else is. No program. -/
import Derived.Test.YtgbhbifdfcfamaaFD
import Derived.Test.YtgbhbifdfcfamaaFE
namespace Go.Proofs.Ytgbhbifdfcfamaa
set_option maxRecDepth 100000

theorem numL_lt256 : ∀ (n : Nat), ∀ x ∈ numL n, x < 256 := by
  intro n
  induction n using Nat.strongRecOn with
  | _ n ih =>
    intro x hx
    by_cases h : n < 128
    · rw [numL_small h] at hx; simp at hx; omega
    · rw [numL_big (by omega)] at hx
      rcases List.mem_cons.1 hx with rfl | hx
      · omega
      · exact ih (n / 128) (by omega) x hx

def sml (l : List Int) : Bool := l.all fun x => decide (x ≤ 4611686018427387904)
theorem sml_snoc (l : List Int) (x : Int) : sml (l ++ [x]) = (sml l && decide (x ≤ 4611686018427387904)) := by simp [sml]

theorem rd_app {n : Nat} (hn : W64 n) (t : List Nat) : rd (numL n ++ t) = (n, (numL n).length) := rd_yes (List.prefix_append _ _) hn
theorem rd2_ne {n : Nat} (hn : W64 n) (t : List Nat) : (rd (numL n ++ t)).2 ≠ 0 := by
  rw [rd_app hn]; show (numL n).length ≠ 0; have := numL_pos n; omega
theorem rdRest_app {n : Nat} (hn : W64 n) (t : List Nat) : rdRest (numL n ++ t) = t := by
  rw [rdRest, if_neg (rd2_ne hn t), rd_app hn]; simp
theorem rdErr_app {n : Nat} (hn : W64 n) (t : List Nat) : rdErr (numL n ++ t) = 0 := by
  rw [rdErr, if_neg (rd2_ne hn t)]
theorem nuL_lt : ∀ l : List Int, ∀ x ∈ nuL l, x < 256
  | [], x, h => by simp [nuL] at h
  | y :: r, x, h => by
    rw [nuL] at h
    rcases List.mem_append.1 h with h | h
    · exact numL_lt256 _ x h
    · exact nuL_lt r x h
theorem rns_nuL : ∀ (l : List Int) (t : List Nat), (∀ x ∈ l, -1 ≤ x ∧ x ≤ 9223372036854775807) → rns l.length (nuL l ++ t) = if sml l then some (l, t) else none
  | [], t, _ => by simp [rns, nuL, sml]
  | x :: r, t, h => by
    obtain ⟨h1, h2⟩ := h x (List.mem_cons_self ..)
    have hw : W64 (x + 1).toNat := by unfold W64; omega
    have ih := rns_nuL r t fun y hy => h y (List.mem_cons_of_mem _ hy)
    have hp := numL_pos (x + 1).toNat
    rw [List.length_cons, nuL, List.append_assoc]
    by_cases hx : x ≤ 4611686018427387904
    · rw [rns_step (rd2_ne hw _) (by rw [rd_app hw]; simp; omega), rdRest_app hw, ih, rd_app hw]
      by_cases hs : sml r = true
      · have : sml (x :: r) = true := by simp only [sml, List.all_cons] at hs ⊢; simp [hx, hs]
        rw [if_pos hs, if_pos this]
        simp; omega
      · have : ¬ sml (x :: r) = true := by simp only [sml, List.all_cons] at hs ⊢; simp [hx]; simpa using hs
        rw [if_neg hs, if_neg this]; rfl
    · rw [rns_none (.inr (by rw [rd_app hw]; simp; omega)), if_neg (by simp [sml]; omega)]

/-! ### Records -/
structure RecD where
  k : Int
  i : Int
  v : Int
  x : Int
  t : List Nat
def N30 (n : Int) : Prop := -1 ≤ n ∧ n ≤ 1073741824
instance (n : Int) : Decidable (N30 n) := by unfold N30; exact inferInstance
def RecD.nums (r : RecD) : List Int := [r.k, r.i, r.v, r.x]
def RecD.Ok (r : RecD) : Prop := N30 r.k ∧ N30 r.i ∧ N30 r.v ∧ N30 r.x ∧ r.t.length ≤ 1024
instance (r : RecD) : Decidable r.Ok := by unfold RecD.Ok; exact inferInstance
/-- What stands in a record, and the record as bytes. -/
def RecD.pay (r : RecD) : List Nat := nuL r.nums ++ txL r.t
def RecD.bs (r : RecD) : List Nat := txL r.pay
theorem RecD.bound {r : RecD} (h : r.Ok) : ∀ x ∈ r.nums, -1 ≤ x ∧ x ≤ 9223372036854775807 := by
  obtain ⟨h1, h2, h3, h4, _⟩ := h
  unfold N30 at *
  intro x hx
  simp [RecD.nums] at hx
  rcases hx with rfl | rfl | rfl | rfl <;> omega
theorem RecD.sml {r : RecD} (h : r.Ok) : sml r.nums = true := by
  obtain ⟨h1, h2, h3, h4, _⟩ := h
  unfold N30 at *
  simp [RecD.nums, Go.Proofs.Ytgbhbifdfcfamaa.sml]; omega
theorem txL_small {l : List Nat} (h : l.length ≤ 4096) : txL l = numL l.length ++ l := by rw [txL, if_neg (by omega)]
theorem txL_len {l : List Nat} : (txL l).length ≤ l.length + 10 := by
  unfold txL
  split
  · simp
  · have := numL_len10 (W64_of (n := l.length) (by omega)); simp; omega
theorem RecD.pay_len {r : RecD} (h : r.Ok) : r.pay.length ≤ 1074 := by
  have h1 := nuL_len r.nums fun x hx => (r.bound h x hx).2
  have h2 := txL_len (l := r.t)
  have h3 := h.2.2.2.2
  simp [RecD.nums] at h1
  simp [RecD.pay, RecD.nums]; omega
theorem RecD.bs_eq {r : RecD} (h : r.Ok) : r.bs = numL r.pay.length ++ r.pay := txL_small (by have := r.pay_len h; omega)
theorem RecD.bs_len {r : RecD} (h : r.Ok) : r.bs.length ≤ 1084 := by
  have h1 := r.pay_len h; have h2 := txL_len (l := r.pay); unfold RecD.bs; omega
theorem RecD.bs_pos (r : RecD) (h : r.Ok) : 0 < r.bs.length := by rw [r.bs_eq h]; have := numL_pos r.pay.length; simp; omega
/-- A text at the head of bytes is read. -/
theorem rt_pre {t : List Nat} (ht : t.length ≤ 4096) (s : List Nat) : RtOk (txL t ++ s) ∧ rtL (txL t ++ s) = t ∧ rtRest (txL t ++ s) = s := by
  have hw := W64_of (n := t.length) (by omega)
  have hr : rd (txL t ++ s) = (t.length, (numL t.length).length) := by rw [txL_small ht, List.append_assoc]; exact rd_app hw _
  have hp := numL_pos t.length
  have hok : RtOk (txL t ++ s) := by
    refine ⟨by rw [hr]; show (numL t.length).length ≠ 0; omega, by rw [hr]; exact ht, by rw [hr, txL_small ht]; simp⟩
  refine ⟨hok, ?_, ?_⟩
  · rw [rtL, if_pos hok, hr, txL_small ht]
    have e1 : (numL t.length ++ t ++ s).take ((numL t.length).length + t.length) = numL t.length ++ t := by
      rw [← List.length_append, List.take_left]
    simp only
    rw [e1, List.drop_left]
  · rw [rtRest, if_pos hok, hr, txL_small ht]
    have e1 : (numL t.length ++ t ++ s).drop ((numL t.length).length + t.length) = s := by
      rw [← List.length_append, List.drop_left]
    exact e1
/-- What is read as a text was one. -/
theorem rt_was {l : List Nat} (hl : ∀ x ∈ l, x < 256) (h : RtOk l) : l = txL (rtL l) ++ rtRest l ∧ (rtL l).length ≤ 4096 := by
  have h' := h
  obtain ⟨h0, h1, h2⟩ := h
  obtain ⟨hp, hlen, hw⟩ := rd_some hl h0
  obtain ⟨s, hs⟩ := hp
  have hL : (rtL l).length = (rd l).1 := by rw [rtL, if_pos h']; simp; omega
  refine ⟨?_, by omega⟩
  rw [txL_small (by omega), hL, rtL, if_pos h', rtRest, if_pos h']
  have e0 : l.take (rd l).2 = numL (rd l).1 := by
    rw [hlen]
    have : ((numL (rd l).1 ++ s).take (numL (rd l).1).length) = numL (rd l).1 := List.take_left
    rwa [hs] at this
  have e1 : l.take ((rd l).2 + (rd l).1) = numL (rd l).1 ++ (l.take ((rd l).2 + (rd l).1)).drop (rd l).2 := by
    conv => lhs; rw [← List.take_append_drop (rd l).2 (l.take ((rd l).2 + (rd l).1))]
    rw [List.take_take, Nat.min_eq_left (by omega), e0]
  rw [← e1, List.take_append_drop]

/-- The record with which bytes begin, if there is one: as the document has it. -/
def fst (b : List Nat) : Option RecD :=
  if RtOk b then match rns 4 (rtL b) with
    | some ([k, i, v, x], s) => if RtOk s then (let r : RecD := ⟨k, i, v, x, rtL s⟩; if r.Ok ∧ r.bs.isPrefixOf b = true then some r else none) else none
    | _ => none
  else none
theorem rns4_pay {r : RecD} (h : r.Ok) (s : List Nat) : rns 4 (nuL r.nums ++ s) = some (r.nums, s) := by
  have := rns_nuL r.nums s (r.bound h)
  rw [show r.nums.length = 4 from rfl] at this
  rw [this, if_pos (r.sml h)]
theorem fst_yes {r : RecD} (h : r.Ok) {b : List Nat} (hb : r.bs <+: b) : fst b = some r := by
  obtain ⟨s, rfl⟩ := hb
  have hpl := r.pay_len h
  obtain ⟨h1, h2, h3⟩ := rt_pre (t := r.pay) (by omega) s
  obtain ⟨h4, h5, _⟩ := rt_pre (t := r.t) (by have := h.2.2.2.2; omega) []
  rw [List.append_nil] at h4 h5
  unfold fst RecD.bs
  rw [if_pos h1, h2]
  unfold RecD.pay
  rw [rns4_pay h]
  show (if RtOk (txL r.t) then _ else none) = some r
  rw [if_pos h4]
  have e : (⟨r.k, r.i, r.v, r.x, rtL (txL r.t)⟩ : RecD) = r := by rw [h5]
  show (if RecD.Ok ⟨r.k, r.i, r.v, r.x, rtL (txL r.t)⟩ ∧ (RecD.bs ⟨r.k, r.i, r.v, r.x, rtL (txL r.t)⟩).isPrefixOf _ = true then some ⟨r.k, r.i, r.v, r.x, rtL (txL r.t)⟩ else none) = some r
  rw [e, if_pos ⟨h, List.isPrefixOf_iff_prefix.2 (List.prefix_append _ _)⟩]
theorem fst_some {b : List Nat} {r : RecD} (h : fst b = some r) : r.Ok ∧ r.bs <+: b := by
  unfold fst at h
  split at h
  · split at h
    · split at h
      · simp only at h
        split at h
        · rename_i hc
          cases h
          exact ⟨hc.1, List.isPrefixOf_iff_prefix.1 hc.2⟩
        · cases h
      · cases h
    · cases h
  · cases h
theorem fst_one {r r' : RecD} (h : r.Ok) (h' : r'.Ok) {b : List Nat} (hb : r.bs <+: b) (hb' : r'.bs <+: b) : r = r' := by
  have := (fst_yes h hb).symm.trans (fst_yes h' hb')
  injection this
/-- What is cut off within a record begins with none. -/
theorem fst_cut {r : RecD} (h : r.Ok) {p : List Nat} (hp : p <+: r.bs) (hn : p ≠ r.bs) : fst p = none := by
  cases hf : fst p with
  | none => rfl
  | some r' =>
    exfalso
    obtain ⟨h1, h2⟩ := fst_some hf
    have := fst_one h1 h (h2.trans hp) (List.prefix_refl _)
    subst this
    exact hn (hp.eq_of_length (Nat.le_antisymm hp.length_le h2.length_le))

/-- All records with which bytes begin. -/
def scanJ : Nat → List Nat → List RecD
  | 0, _ => []
  | f + 1, b => match fst b with
    | some r => r :: scanJ f (b.drop r.bs.length)
    | none => []
def recs (b : List Nat) : List RecD := scanJ b.length b
def cat (l : List RecD) : List Nat := (l.map RecD.bs).flatten
theorem cat_cons (r : RecD) (l : List RecD) : cat (r :: l) = r.bs ++ cat l := rfl
theorem cat_snoc (l : List RecD) (r : RecD) : cat (l ++ [r]) = cat l ++ r.bs := by simp [cat]
theorem scanJ_fuel : ∀ (f g : Nat) (b : List Nat), b.length ≤ f → b.length ≤ g → scanJ f b = scanJ g b
  | 0, 0, _, _, _ => rfl
  | 0, g + 1, b, h, _ => by
    have : b = [] := List.eq_nil_of_length_eq_zero (by omega)
    subst this
    cases hf : fst [] with
    | none => simp [scanJ, hf]
    | some r => obtain ⟨h1, h2⟩ := fst_some hf; have h3 := r.bs_pos h1; have h4 := h2.length_le; rw [List.length_nil] at h4; omega
  | f + 1, 0, b, _, h => by
    have : b = [] := List.eq_nil_of_length_eq_zero (by omega)
    subst this
    cases hf : fst [] with
    | none => simp [scanJ, hf]
    | some r => obtain ⟨h1, h2⟩ := fst_some hf; have h3 := r.bs_pos h1; have h4 := h2.length_le; rw [List.length_nil] at h4; omega
  | f + 1, g + 1, b, h, h' => by
    cases hf : fst b with
    | none => simp [scanJ, hf]
    | some r =>
      obtain ⟨h1, h2⟩ := fst_some hf
      have := r.bs_pos h1; have := h2.length_le
      simp only [scanJ, hf]
      rw [scanJ_fuel f g (b.drop r.bs.length) (by simp; omega) (by simp; omega)]
theorem recs_none {b : List Nat} (h : fst b = none) : recs b = [] := by
  unfold recs; cases hl : b.length with
  | zero => rfl
  | succ n => simp [scanJ, h]
theorem recs_some {b : List Nat} {r : RecD} (h : fst b = some r) : recs b = r :: recs (b.drop r.bs.length) := by
  obtain ⟨h1, h2⟩ := fst_some h
  have hp := r.bs_pos h1; have hle := h2.length_le
  unfold recs
  obtain ⟨n, hn⟩ : ∃ n, b.length = n + 1 := ⟨b.length - 1, by omega⟩
  rw [hn]
  simp only [scanJ, h]
  rw [scanJ_fuel n (b.drop r.bs.length).length _ (by simp; omega) (Nat.le_refl _)]
theorem recs_app : ∀ (l : List RecD), (∀ r ∈ l, r.Ok) → ∀ s : List Nat, recs (cat l ++ s) = l ++ recs s
  | [], _, s => by simp [cat]
  | r :: l, h, s => by
    have hr := h r (List.mem_cons_self ..)
    rw [cat_cons, List.append_assoc, recs_some (fst_yes hr (List.prefix_append _ _)), List.drop_left, recs_app l (fun x hx => h x (List.mem_cons_of_mem _ hx)) s]
    rfl
theorem recs_ok : ∀ (f : Nat) (b : List Nat), b.length ≤ f → (∀ r ∈ recs b, r.Ok) ∧ cat (recs b) <+: b
  | f, b, hf => by
    cases h : fst b with
    | none => rw [recs_none h]; exact ⟨fun r hr => by simp at hr, by simp [cat]⟩
    | some r =>
      obtain ⟨h1, h2⟩ := fst_some h
      have hp := r.bs_pos h1; have hle := h2.length_le
      rw [recs_some h]
      cases f with
      | zero => omega
      | succ f =>
        obtain ⟨h3, h4⟩ := recs_ok f (b.drop r.bs.length) (by simp; omega)
        refine ⟨fun x hx => ?_, ?_⟩
        · rcases List.mem_cons.1 hx with rfl | hx
          · exact h1
          · exact h3 x hx
        · rw [cat_cons]
          obtain ⟨s, hs⟩ := h2
          have e : b.drop r.bs.length = s := by rw [← hs, List.drop_left]
          rw [e] at h4 ⊢
          rw [← hs]
          exact (List.prefix_append_right_inj _).2 h4
/-- Of records that are cut off those are found that are whole. -/
theorem recs_take : ∀ (l : List RecD), (∀ r ∈ l, r.Ok) → ∀ n : Nat, ∃ k, k ≤ l.length ∧ recs ((cat l).take n) = l.take k ∧ cat (l.take k) <+: (cat l).take n ∧ (k < l.length → n < (cat (l.take (k + 1))).length)
  | [], _, n => ⟨0, Nat.le_refl _, by simp [cat, recs, scanJ], by simp [cat], fun h => by simp at h⟩
  | r :: l, h, n => by
    have hr := h r (List.mem_cons_self ..)
    by_cases hn : r.bs.length ≤ n
    · obtain ⟨k, h1, h2, h3, h4⟩ := recs_take l (fun x hx => h x (List.mem_cons_of_mem _ hx)) (n - r.bs.length)
      have ht : (cat (r :: l)).take n = r.bs ++ (cat l).take (n - r.bs.length) := by
        rw [cat_cons, List.take_append, List.take_of_length_le hn]
      refine ⟨k + 1, by simp; omega, ?_, ?_, fun hk => ?_⟩
      · rw [ht, recs_some (fst_yes hr (List.prefix_append _ _)), List.drop_left, h2]; rfl
      · rw [ht, List.take_succ_cons, cat_cons]; exact List.prefix_append_right_inj _ |>.2 h3
      · have := h4 (by simpa using hk)
        rw [List.take_succ_cons, cat_cons, List.length_append]; omega
    · have hp : (cat (r :: l)).take n <+: r.bs := by
        rw [cat_cons, List.take_append_of_le_length (by omega)]; exact List.take_prefix _ _
      have hne : (cat (r :: l)).take n ≠ r.bs := fun e => by
        have := congrArg List.length e
        rw [cat_cons, List.length_take, List.length_append] at this; omega
      exact ⟨0, Nat.zero_le _, by rw [recs_none (fst_cut hr hp hne)]; rfl, by simp [cat], fun _ => by simp [cat]; omega⟩
end Go.Proofs.Ytgbhbifdfcfamaa
namespace Go.Proofs.Ytgbhbifdfcfamaa
set_option maxRecDepth 100000

theorem rd_was {l : List Nat} (hl : ∀ x ∈ l, x < 256) (h : (rd l).2 ≠ 0) : l = numL (rd l).1 ++ rdRest l ∧ W64 (rd l).1 := by
  obtain ⟨⟨s, hs⟩, hlen, hw⟩ := rd_some hl h
  refine ⟨?_, hw⟩
  rw [rdRest, if_neg h, hlen]
  have : l.drop (numL (rd l).1).length = s := by
    have h2 : (numL (rd l).1 ++ s).drop (numL (rd l).1).length = s := List.drop_left
    rwa [hs] at h2
  rw [this]; exact hs.symm
/-- What is read as numbers were they. -/
theorem rns_was : ∀ (k : Nat) (l : List Nat) (xs : List Int) (s : List Nat), (∀ x ∈ l, x < 256) → rns k l = some (xs, s) → l = nuL xs ++ s ∧ xs.length = k ∧ ∀ x ∈ xs, -1 ≤ x ∧ x ≤ 4611686018427387904
  | 0, l, xs, s, _, h => by
    simp only [rns, Option.some.injEq, Prod.mk.injEq] at h
    obtain ⟨rfl, rfl⟩ := h
    exact ⟨by simp [nuL], rfl, by simp⟩
  | k + 1, l, xs, s, hl, h => by
    by_cases hc : (rd l).2 = 0 ∨ 4611686018427387905 < (rd l).1
    · rw [rns_none hc] at h; cases h
    · have h0 : (rd l).2 ≠ 0 := fun e => hc (.inl e)
      rw [rns_step h0 (fun e => hc (.inr e))] at h
      cases hr : rns k (rdRest l) with
      | none => rw [hr] at h; cases h
      | some p =>
        obtain ⟨ys, t⟩ := p
        rw [hr] at h
        simp only [Option.map_some, Option.some.injEq, Prod.mk.injEq] at h
        obtain ⟨rfl, rfl⟩ := h
        obtain ⟨h1, h2, h3⟩ := rns_was k (rdRest l) ys t (rdRest_lt' hl) hr
        obtain ⟨hd, hw⟩ := rd_was hl h0
        refine ⟨?_, by simp [h2], fun x hx => ?_⟩
        · have e : (((rd l).1 : Int) - 1 + 1).toNat = (rd l).1 := by omega
          rw [nuL, e, List.append_assoc, ← h1]; exact hd
        · rcases List.mem_cons.1 hx with rfl | hx
          · omega
          · exact h3 x hx
theorem numL_len5 {n : Nat} (h : n ≤ 1073741825) : (numL n).length ≤ 5 := by
  have step : ∀ {m}, 128 ≤ m → (numL m).length = (numL (m / 128)).length + 1 := fun {m} hm => by rw [numL_big hm]; simp
  have small : ∀ {m}, m < 128 → (numL m).length = 1 := fun {m} hm => by rw [numL_small hm]; rfl
  by_cases h1 : n < 128
  · rw [small h1]; omega
  rw [step (by omega)]
  by_cases h2 : n / 128 < 128
  · rw [small h2]; omega
  rw [step (by omega)]
  by_cases h3 : n / 128 / 128 < 128
  · rw [small h3]; omega
  rw [step (by omega)]
  by_cases h4 : n / 128 / 128 / 128 < 128
  · rw [small h4]; omega
  rw [step (by omega), small (by omega)]; omega
theorem numL_len2 {n : Nat} (h : n < 16384) : (numL n).length ≤ 2 := by
  by_cases h1 : n < 128
  · rw [numL_small h1]; simp
  · rw [numL_big (by omega), List.length_cons, numL_small (by omega)]; simp
theorem nuL_len5 : ∀ l : List Int, (∀ x ∈ l, x ≤ 1073741824) → (nuL l).length ≤ 5 * l.length
  | [], _ => by simp [nuL]
  | x :: r, h => by
    have h1 := numL_len5 (n := (x + 1).toNat) (by have := h x (List.mem_cons_self ..); omega)
    have h2 := nuL_len5 r fun y hy => h y (List.mem_cons_of_mem _ hy)
    simp [nuL]; omega
theorem RecD.pay_len2 {r : RecD} (h : r.Ok) : r.pay.length ≤ 1046 := by
  have ht := h.2.2.2.2
  have h1 := nuL_len5 r.nums fun x hx => by
    obtain ⟨h1, h2, h3, h4, _⟩ := h
    unfold N30 at *
    simp [RecD.nums] at hx
    rcases hx with rfl | rfl | rfl | rfl <;> omega
  have h2 := numL_len2 (n := r.t.length) (by omega)
  rw [RecD.pay, txL_small (by omega)]
  simp [RecD.nums] at h1 ⊢; omega
theorem RecD.bs_len2 {r : RecD} (h : r.Ok) : r.bs.length ≤ 1048 := by
  have h1 := r.pay_len2 h
  have h2 := numL_len2 (n := r.pay.length) (by omega)
  rw [r.bs_eq h]; simp; omega

def RecD.zero : RecD := ⟨0, 0, 0, 0, []⟩
/-- What is told of a record that isn't there. -/
def orZ (o : Option RecD) : RecD := match o with | some r => r | none => RecD.zero
/-- The record of which all of b is the inside. -/
def inner (b : List Nat) : Option RecD := match rns 4 b with
  | some ([k, i, v, x], s) => if RtOk s ∧ rtRest s = [] ∧ (⟨k, i, v, x, rtL s⟩ : RecD).Ok then some ⟨k, i, v, x, rtL s⟩ else none
  | _ => none
theorem inner_pay {r : RecD} (h : r.Ok) : inner r.pay = some r := by
  obtain ⟨h4, h5, h6⟩ := rt_pre (t := r.t) (by have := h.2.2.2.2; omega) []
  rw [List.append_nil] at h4 h5 h6
  unfold inner
  have e : rns 4 r.pay = some ([r.k, r.i, r.v, r.x], txL r.t) := rns4_pay h (txL r.t)
  rw [e]
  have e2 : (⟨r.k, r.i, r.v, r.x, rtL (txL r.t)⟩ : RecD) = r := by rw [h5]
  show (if RtOk (txL r.t) ∧ rtRest (txL r.t) = [] ∧ (⟨r.k, r.i, r.v, r.x, rtL (txL r.t)⟩ : RecD).Ok then some (⟨r.k, r.i, r.v, r.x, rtL (txL r.t)⟩ : RecD) else none) = some r
  rw [e2, if_pos ⟨h4, h6, h⟩]
theorem inner_some {b : List Nat} (hb : ∀ x ∈ b, x < 256) {r : RecD} (h : inner b = some r) : r.Ok ∧ b = r.pay := by
  unfold inner at h
  split at h
  · rename_i k i v x s hr
    split at h
    · rename_i hc
      obtain ⟨c1, c2, c3⟩ := hc
      cases h
      obtain ⟨h1, _, _⟩ := rns_was 4 b _ s hb hr
      have hs : ∀ x ∈ s, x < 256 := fun y hy => hb y (by rw [h1]; exact List.mem_append_right _ hy)
      obtain ⟨h2, _⟩ := rt_was hs c1
      rw [c2, List.append_nil] at h2
      refine ⟨c3, ?_⟩
      show b = nuL [k, i, v, x] ++ txL (rtL s)
      rw [← h2]; exact h1
    · cases h
  · cases h
/-- The record with which bytes begin, as the program reads it: of the first 1048 of them. -/
def fstP (l : List Nat) : Option (RecD × Nat) := if RtOk (l.take 1048) then (inner (rtL (l.take 1048))).map fun r => (r, (l.take 1048).length - (rtRest (l.take 1048)).length) else none
theorem rtL_lt {l : List Nat} (hl : ∀ x ∈ l, x < 256) : ∀ x ∈ rtL l, x < 256 := by
  intro x hx
  unfold rtL at hx
  split at hx
  · exact hl x (List.mem_of_mem_take (List.mem_of_mem_drop hx))
  · simp at hx
theorem rtL_len (l : List Nat) : (rtL l).length ≤ l.length := by
  unfold rtL
  split <;> simp; omega
theorem rtRest_len (l : List Nat) : (rtRest l).length ≤ l.length := by
  unfold rtRest
  split <;> simp
theorem rtRest_lt {l : List Nat} (hl : ∀ x ∈ l, x < 256) : ∀ x ∈ rtRest l, x < 256 := by
  intro x hx
  unfold rtRest at hx
  split at hx
  · exact hl x (List.mem_of_mem_drop hx)
  · simp at hx
theorem fstP_eq {l : List Nat} (hl : ∀ x ∈ l, x < 256) : fstP l = (fst l).map fun r => (r, r.bs.length) := by
  have hl2 : ∀ x ∈ l.take 1048, x < 256 := fun x hx => hl x (List.mem_of_mem_take hx)
  cases hf : fst l with
  | some r =>
    obtain ⟨h1, h2⟩ := fst_some hf
    have h3 : r.bs <+: l.take 1048 := by
      obtain ⟨s, rfl⟩ := h2
      rw [List.take_append, List.take_of_length_le (r.bs_len2 h1)]
      exact List.prefix_append _ _
    obtain ⟨s, hs⟩ := h3
    obtain ⟨g1, g2, g3⟩ := rt_pre (t := r.pay) (by have := r.pay_len h1; omega) s
    unfold fstP
    rw [← hs]
    unfold RecD.bs
    rw [if_pos g1, g2, g3, inner_pay h1]
    simp
  | none =>
    unfold fstP
    split
    · rename_i hr
      cases hi : inner (rtL (l.take 1048)) with
      | none => rfl
      | some r =>
        exfalso
        obtain ⟨h1, h2⟩ := inner_some (rtL_lt hl2) hi
        obtain ⟨h3, _⟩ := rt_was hl2 hr
        have : r.bs <+: l := by
          refine List.IsPrefix.trans ?_ (List.take_prefix 1048 l)
          unfold RecD.bs
          rw [← h2]
          exact ⟨_, h3.symm⟩
        rw [fst_yes h1 this] at hf; cases hf
    · rfl
end Go.Proofs.Ytgbhbifdfcfamaa
namespace Go.Proofs.Ytgbhbifdfcfamaa
set_option maxRecDepth 100000

theorem nuL_app : ∀ l m : List Int, nuL (l ++ m) = nuL l ++ nuL m
  | [], m => rfl
  | x :: l, m => by rw [List.cons_append, nuL, nuL, nuL_app l m, List.append_assoc]
/-- Numbers that can be read. -/
def Rdb (xs : List Int) : Prop := ∀ x ∈ xs, -1 ≤ x ∧ x ≤ 4611686018427387904
theorem Rdb.sml {xs : List Int} (h : Rdb xs) : sml xs = true := by
  simp only [Go.Proofs.Ytgbhbifdfcfamaa.sml, List.all_eq_true, decide_eq_true_eq]
  exact fun x hx => (h x hx).2
theorem rns_yes {xs : List Int} (h : Rdb xs) (s : List Nat) : rns xs.length (nuL xs ++ s) = some (xs, s) := by
  rw [rns_nuL xs s fun x hx => by have := h x hx; omega, if_pos h.sml]
/-- Fewer numbers than there are: the others are left. -/
theorem rns_few {xs ys : List Int} (h : Rdb (xs ++ ys)) (s : List Nat) : rns xs.length (nuL (xs ++ ys) ++ s) = some (xs, nuL ys ++ s) := by
  rw [nuL_app, List.append_assoc]
  exact rns_yes (fun x hx => h x (List.mem_append_left _ hx)) _
theorem nuL_pos {xs : List Int} (h : xs ≠ []) : nuL xs ≠ [] := by
  cases xs with
  | nil => exact absurd rfl h
  | cons x r =>
    intro e
    have h1 := congrArg List.length e
    have h2 := numL_pos (x + 1).toNat
    rw [nuL, List.length_append, List.length_nil] at h1
    omega
/-- So many numbers and nothing behind them: just one list has these bytes. -/
theorem nuL_inj {xs ys : List Int} (hx : Rdb xs) (hy : Rdb ys) (h : nuL xs = nuL ys) : xs = ys := by
  rcases Nat.le_total xs.length ys.length with hl | hl
  · have e := rns_few (xs := ys.take xs.length) (ys := ys.drop xs.length) (by rw [List.take_append_drop]; exact hy) []
    rw [List.take_append_drop, ← h, List.length_take, Nat.min_eq_left hl, rns_yes hx []] at e
    simp only [Option.some.injEq, Prod.mk.injEq, List.append_nil] at e
    by_cases hd : ys.drop xs.length = []
    · rw [e.1]; conv => rhs; rw [← List.take_append_drop xs.length ys, hd, List.append_nil]
    · exact absurd e.2.symm (nuL_pos hd)
  · have e := rns_few (xs := xs.take ys.length) (ys := xs.drop ys.length) (by rw [List.take_append_drop]; exact hx) []
    rw [List.take_append_drop, h, List.length_take, Nat.min_eq_left hl, rns_yes hy []] at e
    simp only [Option.some.injEq, Prod.mk.injEq, List.append_nil] at e
    by_cases hd : xs.drop ys.length = []
    · rw [e.1]; conv => lhs; rw [← List.take_append_drop ys.length xs, hd, List.append_nil]
    · exact absurd e.2.symm (nuL_pos hd)

structure TxD where
  id : Int
  fee : Int
deriving DecidableEq
namespace TxD
def Right (t : TxD) : Prop := 1 ≤ t.id ∧ t.id ≤ 1000000 ∧ 0 ≤ t.fee ∧ t.fee ≤ 1000
instance (t : TxD) : Decidable t.Right := by unfold Right; exact inferInstance
def nums (t : TxD) : List Int := [t.id, t.fee]
/-- Does it go ahead? -/
def less (a b : TxD) : Bool := if a.fee ≠ b.fee then decide (b.fee < a.fee) else decide (a.id < b.id)
theorem less_irrefl (a : TxD) : less a a = false := by simp [less]
theorem less_trans {a b c : TxD} (h : less a b = true) (k : less b c = true) : less a c = true := by
  unfold less at *
  split at h <;> split at k <;> split <;> simp at * <;> omega
theorem less_one (a b : TxD) : ¬ (less a b = true ∧ less b a = true) := fun ⟨h, k⟩ => by
  have := less_trans h k; rw [less_irrefl] at this; cases this
theorem less_tot {a b : TxD} (h : less a b = false) (k : less b a = false) : a = b := by
  cases a; cases b
  unfold less at *
  split at h <;> split at k <;> simp at * <;> omega
theorem Right.rdb {t : TxD} (h : t.Right) : Rdb t.nums := fun x hx => by
  obtain ⟨h1, h2, h3, h4⟩ := h
  simp [nums] at hx
  rcases hx with rfl | rfl <;> omega
end TxD
/-- The transaction of bytes. -/
def rdTx (b : List Nat) : Option TxD := match rns 2 b with
  | some ([i, f], []) => if (⟨i, f⟩ : TxD).Right then some ⟨i, f⟩ else none
  | _ => none
theorem rdTx_yes {t : TxD} (h : t.Right) : rdTx (nuL t.nums) = some t := by
  have e := rns_yes h.rdb []
  rw [List.append_nil] at e
  have e2 : rns 2 (nuL t.nums) = some ([t.id, t.fee], []) := e
  unfold rdTx
  rw [e2]
  exact if_pos h
theorem rdTx_some {b : List Nat} (hb : ∀ x ∈ b, x < 256) {t : TxD} (h : rdTx b = some t) : t.Right ∧ b = nuL t.nums := by
  unfold rdTx at h
  split at h
  · rename_i i f hr
    split at h
    · rename_i hc
      cases h
      obtain ⟨h1, _, _⟩ := rns_was 2 b _ _ hb hr
      exact ⟨hc, by rw [List.append_nil] at h1; exact h1⟩
    · cases h
  · cases h

/-! ### Lists -/
def txNums (l : List TxD) : List Int := (l.map TxD.nums).flatten
def lsNums (l : List TxD) : List Int := (l.length : Int) :: txNums l
def lsB (l : List TxD) : List Nat := nuL (lsNums l)
structure LsOk (l : List TxD) : Prop where
  len : l.length ≤ 3
  right : ∀ t ∈ l, t.Right
  ids : (l.map TxD.id).Nodup
instance (l : List TxD) : Decidable (LsOk l) :=
  decidable_of_iff (l.length ≤ 3 ∧ (∀ t ∈ l, t.Right) ∧ (l.map TxD.id).Nodup) ⟨fun ⟨a, b, c⟩ => ⟨a, b, c⟩, fun ⟨a, b, c⟩ => ⟨a, b, c⟩⟩
theorem txNums_len (l : List TxD) : (txNums l).length = 2 * l.length := by
  induction l with
  | nil => rfl
  | cons t l ih => simp only [txNums, List.map_cons, List.flatten_cons, List.length_append, List.length_cons, TxD.nums, List.length_nil] at ih ⊢; omega
theorem txNums_cons (t : TxD) (l : List TxD) : txNums (t :: l) = t.id :: t.fee :: txNums l := rfl
theorem txNums_inj : ∀ {l m : List TxD}, txNums l = txNums m → l = m
  | [], [], _ => rfl
  | [], t :: m, h => by simp [txNums, TxD.nums] at h
  | t :: l, [], h => by simp [txNums, TxD.nums] at h
  | t :: l, u :: m, h => by
    rw [txNums_cons, txNums_cons] at h
    injection h with h1 h2
    injection h2 with h2 h3
    have := txNums_inj h3
    subst this
    cases t; cases u; simp at h1 h2; subst h1 h2; rfl
theorem LsOk.rdb {l : List TxD} (h : LsOk l) : Rdb (lsNums l) := by
  have hl := h.len
  intro x hx
  rcases List.mem_cons.1 hx with rfl | hx
  · omega
  · unfold txNums at hx
    obtain ⟨y, hy, hxy⟩ := List.mem_flatten.1 hx
    obtain ⟨t, ht, rfl⟩ := List.mem_map.1 hy
    exact (h.right t ht).rdb x hxy
/-- Unlike lists have unlike bytes. -/
theorem lsB_inj {l m : List TxD} (hl : LsOk l) (hm : LsOk m) (h : lsB l = lsB m) : l = m := by
  have := nuL_inj hl.rdb hm.rdb h
  injection this with _ h2
  exact txNums_inj h2
/-- Just these bytes are read as l. -/
def IsLs (b : List Nat) (l : List TxD) : Prop := LsOk l ∧ b = lsB l
theorem IsLs.one {b : List Nat} {l m : List TxD} (h : IsLs b l) (k : IsLs b m) : l = m := lsB_inj h.1 k.1 (h.2.symm.trans k.2)
/-- So many numbers are read of a list's bytes: fewer leave some, more can't be. -/
theorem rns_ls {l : List TxD} (h : LsOk l) : rns (1 + 2 * l.length) (lsB l) = some (lsNums l, []) := by
  have e := rns_yes h.rdb []
  rw [List.append_nil] at e
  have hl : (lsNums l).length = 1 + 2 * l.length := by simp [lsNums, txNums_len]; omega
  rw [← hl]; exact e
theorem rns_ls_less {l : List TxD} (h : LsOk l) {n : Nat} (hn : n < l.length) : ∃ s, rns (1 + 2 * n) (lsB l) = some ((lsNums l).take (1 + 2 * n), s) ∧ s ≠ [] := by
  have hl : (lsNums l).length = 1 + 2 * l.length := by simp [lsNums, txNums_len]; omega
  have e := rns_few (xs := (lsNums l).take (1 + 2 * n)) (ys := (lsNums l).drop (1 + 2 * n)) (by rw [List.take_append_drop]; exact h.rdb) []
  rw [List.take_append_drop, List.append_nil, List.append_nil, List.length_take, Nat.min_eq_left (by omega)] at e
  exact ⟨_, e, nuL_pos (by intro e2; have := congrArg List.length e2; rw [List.length_drop] at this; simp at this; omega)⟩
/-- What so many numbers say, if nothing is behind them. -/
theorem ls_of_rns {b : List Nat} (hb : ∀ x ∈ b, x < 256) {n : Nat} {xs : List Int} (h : rns n b = some (xs, [])) : b = nuL xs ∧ xs.length = n := by
  obtain ⟨h1, h2, _⟩ := rns_was n b xs [] hb h
  rw [List.append_nil] at h1
  exact ⟨h1, h2⟩
end Go.Proofs.Ytgbhbifdfcfamaa
