/- Records of a journal as bytes, as plain mathematics: what is written is read, what is cut off isn't there. No program. -/
import Derived.Test.YtabbgnlabiakoaaText
import Derived.Test.YtabbgnlabiakoaaRNums
namespace Go.Proofs.Ytabbgnlabiakoaa

theorem numL_lt256 : ∀ (n : Nat), ∀ x ∈ numL n, x < 256 := by
  intro n
  induction n using Nat.strongRecOn with
  | _ n ih =>
    intro x hx
    by_cases h : n < 128
    · rw [numL_small h] at hx; simp at hx; omega
    · rw [numL_big (by omega)] at hx
      rcases List.mem_cons.1 hx with rfl | hx
      · omega
      · exact ih (n / 128) (by omega) x hx

def sml (l : List Int) : Bool := l.all fun x => decide (x ≤ 4611686018427387904)
theorem sml_snoc (l : List Int) (x : Int) : sml (l ++ [x]) = (sml l && decide (x ≤ 4611686018427387904)) := by simp [sml]

theorem rd_app {n : Nat} (hn : W64 n) (t : List Nat) : rd (numL n ++ t) = (n, (numL n).length) := rd_yes (List.prefix_append _ _) hn
theorem rd2_ne {n : Nat} (hn : W64 n) (t : List Nat) : (rd (numL n ++ t)).2 ≠ 0 := by
  rw [rd_app hn]; show (numL n).length ≠ 0; have := numL_pos n; omega
theorem rdRest_app {n : Nat} (hn : W64 n) (t : List Nat) : rdRest (numL n ++ t) = t := by
  rw [rdRest, if_neg (rd2_ne hn t), rd_app hn]; simp
theorem rdErr_app {n : Nat} (hn : W64 n) (t : List Nat) : rdErr (numL n ++ t) = 0 := by
  rw [rdErr, if_neg (rd2_ne hn t)]
theorem nuL_lt : ∀ l : List Int, ∀ x ∈ nuL l, x < 256
  | [], x, h => by simp [nuL] at h
  | y :: r, x, h => by
    rw [nuL] at h
    rcases List.mem_append.1 h with h | h
    · exact numL_lt256 _ x h
    · exact nuL_lt r x h
theorem rns_nuL : ∀ (l : List Int) (t : List Nat), (∀ x ∈ l, -1 ≤ x ∧ x ≤ 9223372036854775807) → rns l.length (nuL l ++ t) = if sml l then some (l, t) else none
  | [], t, _ => by simp [rns, nuL, sml]
  | x :: r, t, h => by
    obtain ⟨h1, h2⟩ := h x (List.mem_cons_self ..)
    have hw : W64 (x + 1).toNat := by unfold W64; omega
    have ih := rns_nuL r t fun y hy => h y (List.mem_cons_of_mem _ hy)
    have hp := numL_pos (x + 1).toNat
    rw [List.length_cons, nuL, List.append_assoc]
    by_cases hx : x ≤ 4611686018427387904
    · rw [rns_step (rd2_ne hw _) (by rw [rd_app hw]; simp; omega), rdRest_app hw, ih, rd_app hw]
      by_cases hs : sml r = true
      · have : sml (x :: r) = true := by simp only [sml, List.all_cons] at hs ⊢; simp [hx, hs]
        rw [if_pos hs, if_pos this]
        simp; omega
      · have : ¬ sml (x :: r) = true := by simp only [sml, List.all_cons] at hs ⊢; simp [hx]; simpa using hs
        rw [if_neg hs, if_neg this]; rfl
    · rw [rns_none (.inr (by rw [rd_app hw]; simp; omega)), if_neg (by simp [sml]; omega)]

/-! ### Records -/
structure RecD where
  k : Int
  i : Int
  v : Int
  x : Int
  t : List Nat
def N30 (n : Int) : Prop := -1 ≤ n ∧ n ≤ 1073741824
instance (n : Int) : Decidable (N30 n) := by unfold N30; exact inferInstance
def RecD.nums (r : RecD) : List Int := [r.k, r.i, r.v, r.x]
def RecD.Ok (r : RecD) : Prop := N30 r.k ∧ N30 r.i ∧ N30 r.v ∧ N30 r.x ∧ r.t.length ≤ 1024
instance (r : RecD) : Decidable r.Ok := by unfold RecD.Ok; exact inferInstance
/-- What stands in a record, and the record as bytes. -/
def RecD.pay (r : RecD) : List Nat := nuL r.nums ++ txL r.t
def RecD.bs (r : RecD) : List Nat := txL r.pay
theorem RecD.bound {r : RecD} (h : r.Ok) : ∀ x ∈ r.nums, -1 ≤ x ∧ x ≤ 9223372036854775807 := by
  obtain ⟨h1, h2, h3, h4, _⟩ := h
  unfold N30 at *
  intro x hx
  simp [RecD.nums] at hx
  rcases hx with rfl | rfl | rfl | rfl <;> omega
theorem RecD.sml {r : RecD} (h : r.Ok) : sml r.nums = true := by
  obtain ⟨h1, h2, h3, h4, _⟩ := h
  unfold N30 at *
  simp [RecD.nums, Go.Proofs.Ytabbgnlabiakoaa.sml]; omega
theorem txL_small {l : List Nat} (h : l.length ≤ 4096) : txL l = numL l.length ++ l := by rw [txL, if_neg (by omega)]
theorem txL_len {l : List Nat} : (txL l).length ≤ l.length + 10 := by
  unfold txL
  split
  · simp
  · have := numL_len10 (W64_of (n := l.length) (by omega)); simp; omega
theorem RecD.pay_len {r : RecD} (h : r.Ok) : r.pay.length ≤ 1074 := by
  have h1 := nuL_len r.nums fun x hx => (r.bound h x hx).2
  have h2 := txL_len (l := r.t)
  have h3 := h.2.2.2.2
  simp [RecD.nums] at h1
  simp [RecD.pay, RecD.nums]; omega
theorem RecD.bs_eq {r : RecD} (h : r.Ok) : r.bs = numL r.pay.length ++ r.pay := txL_small (by have := r.pay_len h; omega)
theorem RecD.bs_len {r : RecD} (h : r.Ok) : r.bs.length ≤ 1084 := by
  have h1 := r.pay_len h; have h2 := txL_len (l := r.pay); unfold RecD.bs; omega
theorem RecD.bs_pos (r : RecD) (h : r.Ok) : 0 < r.bs.length := by rw [r.bs_eq h]; have := numL_pos r.pay.length; simp; omega
/-- A text at the head of bytes is read. -/
theorem rt_pre {t : List Nat} (ht : t.length ≤ 4096) (s : List Nat) : RtOk (txL t ++ s) ∧ rtL (txL t ++ s) = t ∧ rtRest (txL t ++ s) = s := by
  have hw := W64_of (n := t.length) (by omega)
  have hr : rd (txL t ++ s) = (t.length, (numL t.length).length) := by rw [txL_small ht, List.append_assoc]; exact rd_app hw _
  have hp := numL_pos t.length
  have hok : RtOk (txL t ++ s) := by
    refine ⟨by rw [hr]; show (numL t.length).length ≠ 0; omega, by rw [hr]; exact ht, by rw [hr, txL_small ht]; simp⟩
  refine ⟨hok, ?_, ?_⟩
  · rw [rtL, if_pos hok, hr, txL_small ht]
    have e1 : (numL t.length ++ t ++ s).take ((numL t.length).length + t.length) = numL t.length ++ t := by
      rw [← List.length_append, List.take_left]
    simp only
    rw [e1, List.drop_left]
  · rw [rtRest, if_pos hok, hr, txL_small ht]
    have e1 : (numL t.length ++ t ++ s).drop ((numL t.length).length + t.length) = s := by
      rw [← List.length_append, List.drop_left]
    exact e1
/-- What is read as a text was one. -/
theorem rt_was {l : List Nat} (hl : ∀ x ∈ l, x < 256) (h : RtOk l) : l = txL (rtL l) ++ rtRest l ∧ (rtL l).length ≤ 4096 := by
  have h' := h
  obtain ⟨h0, h1, h2⟩ := h
  obtain ⟨hp, hlen, hw⟩ := rd_some hl h0
  obtain ⟨s, hs⟩ := hp
  have hL : (rtL l).length = (rd l).1 := by rw [rtL, if_pos h']; simp; omega
  refine ⟨?_, by omega⟩
  rw [txL_small (by omega), hL, rtL, if_pos h', rtRest, if_pos h']
  have e0 : l.take (rd l).2 = numL (rd l).1 := by
    rw [hlen]
    have : ((numL (rd l).1 ++ s).take (numL (rd l).1).length) = numL (rd l).1 := List.take_left
    rwa [hs] at this
  have e1 : l.take ((rd l).2 + (rd l).1) = numL (rd l).1 ++ (l.take ((rd l).2 + (rd l).1)).drop (rd l).2 := by
    conv => lhs; rw [← List.take_append_drop (rd l).2 (l.take ((rd l).2 + (rd l).1))]
    rw [List.take_take, Nat.min_eq_left (by omega), e0]
  rw [← e1, List.take_append_drop]

/-- The record with which bytes begin, if there is one: as the document has it. -/
def fst (b : List Nat) : Option RecD :=
  if RtOk b then match rns 4 (rtL b) with
    | some ([k, i, v, x], s) => if RtOk s then (let r : RecD := ⟨k, i, v, x, rtL s⟩; if r.Ok ∧ r.bs.isPrefixOf b = true then some r else none) else none
    | _ => none
  else none
theorem rns4_pay {r : RecD} (h : r.Ok) (s : List Nat) : rns 4 (nuL r.nums ++ s) = some (r.nums, s) := by
  have := rns_nuL r.nums s (r.bound h)
  rw [show r.nums.length = 4 from rfl] at this
  rw [this, if_pos (r.sml h)]
theorem fst_yes {r : RecD} (h : r.Ok) {b : List Nat} (hb : r.bs <+: b) : fst b = some r := by
  obtain ⟨s, rfl⟩ := hb
  have hpl := r.pay_len h
  obtain ⟨h1, h2, h3⟩ := rt_pre (t := r.pay) (by omega) s
  obtain ⟨h4, h5, _⟩ := rt_pre (t := r.t) (by have := h.2.2.2.2; omega) []
  rw [List.append_nil] at h4 h5
  unfold fst RecD.bs
  rw [if_pos h1, h2]
  unfold RecD.pay
  rw [rns4_pay h]
  show (if RtOk (txL r.t) then _ else none) = some r
  rw [if_pos h4]
  have e : (⟨r.k, r.i, r.v, r.x, rtL (txL r.t)⟩ : RecD) = r := by rw [h5]
  show (if RecD.Ok ⟨r.k, r.i, r.v, r.x, rtL (txL r.t)⟩ ∧ (RecD.bs ⟨r.k, r.i, r.v, r.x, rtL (txL r.t)⟩).isPrefixOf _ = true then some ⟨r.k, r.i, r.v, r.x, rtL (txL r.t)⟩ else none) = some r
  rw [e, if_pos ⟨h, List.isPrefixOf_iff_prefix.2 (List.prefix_append _ _)⟩]
theorem fst_some {b : List Nat} {r : RecD} (h : fst b = some r) : r.Ok ∧ r.bs <+: b := by
  unfold fst at h
  split at h
  · split at h
    · split at h
      · simp only at h
        split at h
        · rename_i hc
          cases h
          exact ⟨hc.1, List.isPrefixOf_iff_prefix.1 hc.2⟩
        · cases h
      · cases h
    · cases h
  · cases h
theorem fst_one {r r' : RecD} (h : r.Ok) (h' : r'.Ok) {b : List Nat} (hb : r.bs <+: b) (hb' : r'.bs <+: b) : r = r' := by
  have := (fst_yes h hb).symm.trans (fst_yes h' hb')
  injection this
/-- What is cut off within a record begins with none. -/
theorem fst_cut {r : RecD} (h : r.Ok) {p : List Nat} (hp : p <+: r.bs) (hn : p ≠ r.bs) : fst p = none := by
  cases hf : fst p with
  | none => rfl
  | some r' =>
    exfalso
    obtain ⟨h1, h2⟩ := fst_some hf
    have := fst_one h1 h (h2.trans hp) (List.prefix_refl _)
    subst this
    exact hn (hp.eq_of_length (Nat.le_antisymm hp.length_le h2.length_le))

/-- All records with which bytes begin. -/
def scanJ : Nat → List Nat → List RecD
  | 0, _ => []
  | f + 1, b => match fst b with
    | some r => r :: scanJ f (b.drop r.bs.length)
    | none => []
def recs (b : List Nat) : List RecD := scanJ b.length b
def cat (l : List RecD) : List Nat := (l.map RecD.bs).flatten
theorem cat_cons (r : RecD) (l : List RecD) : cat (r :: l) = r.bs ++ cat l := rfl
theorem cat_snoc (l : List RecD) (r : RecD) : cat (l ++ [r]) = cat l ++ r.bs := by simp [cat]
theorem scanJ_fuel : ∀ (f g : Nat) (b : List Nat), b.length ≤ f → b.length ≤ g → scanJ f b = scanJ g b
  | 0, 0, _, _, _ => rfl
  | 0, g + 1, b, h, _ => by
    have : b = [] := List.eq_nil_of_length_eq_zero (by omega)
    subst this
    cases hf : fst [] with
    | none => simp [scanJ, hf]
    | some r => obtain ⟨h1, h2⟩ := fst_some hf; have h3 := r.bs_pos h1; have h4 := h2.length_le; rw [List.length_nil] at h4; omega
  | f + 1, 0, b, _, h => by
    have : b = [] := List.eq_nil_of_length_eq_zero (by omega)
    subst this
    cases hf : fst [] with
    | none => simp [scanJ, hf]
    | some r => obtain ⟨h1, h2⟩ := fst_some hf; have h3 := r.bs_pos h1; have h4 := h2.length_le; rw [List.length_nil] at h4; omega
  | f + 1, g + 1, b, h, h' => by
    cases hf : fst b with
    | none => simp [scanJ, hf]
    | some r =>
      obtain ⟨h1, h2⟩ := fst_some hf
      have := r.bs_pos h1; have := h2.length_le
      simp only [scanJ, hf]
      rw [scanJ_fuel f g (b.drop r.bs.length) (by simp; omega) (by simp; omega)]
theorem recs_none {b : List Nat} (h : fst b = none) : recs b = [] := by
  unfold recs; cases hl : b.length with
  | zero => rfl
  | succ n => simp [scanJ, h]
theorem recs_some {b : List Nat} {r : RecD} (h : fst b = some r) : recs b = r :: recs (b.drop r.bs.length) := by
  obtain ⟨h1, h2⟩ := fst_some h
  have hp := r.bs_pos h1; have hle := h2.length_le
  unfold recs
  obtain ⟨n, hn⟩ : ∃ n, b.length = n + 1 := ⟨b.length - 1, by omega⟩
  rw [hn]
  simp only [scanJ, h]
  rw [scanJ_fuel n (b.drop r.bs.length).length _ (by simp; omega) (Nat.le_refl _)]
theorem recs_app : ∀ (l : List RecD), (∀ r ∈ l, r.Ok) → ∀ s : List Nat, recs (cat l ++ s) = l ++ recs s
  | [], _, s => by simp [cat]
  | r :: l, h, s => by
    have hr := h r (List.mem_cons_self ..)
    rw [cat_cons, List.append_assoc, recs_some (fst_yes hr (List.prefix_append _ _)), List.drop_left, recs_app l (fun x hx => h x (List.mem_cons_of_mem _ hx)) s]
    rfl
theorem recs_ok : ∀ (f : Nat) (b : List Nat), b.length ≤ f → (∀ r ∈ recs b, r.Ok) ∧ cat (recs b) <+: b
  | f, b, hf => by
    cases h : fst b with
    | none => rw [recs_none h]; exact ⟨fun r hr => by simp at hr, by simp [cat]⟩
    | some r =>
      obtain ⟨h1, h2⟩ := fst_some h
      have hp := r.bs_pos h1; have hle := h2.length_le
      rw [recs_some h]
      cases f with
      | zero => omega
      | succ f =>
        obtain ⟨h3, h4⟩ := recs_ok f (b.drop r.bs.length) (by simp; omega)
        refine ⟨fun x hx => ?_, ?_⟩
        · rcases List.mem_cons.1 hx with rfl | hx
          · exact h1
          · exact h3 x hx
        · rw [cat_cons]
          obtain ⟨s, hs⟩ := h2
          have e : b.drop r.bs.length = s := by rw [← hs, List.drop_left]
          rw [e] at h4 ⊢
          rw [← hs]
          exact (List.prefix_append_right_inj _).2 h4
/-- Of records that are cut off those are found that are whole. -/
theorem recs_take : ∀ (l : List RecD), (∀ r ∈ l, r.Ok) → ∀ n : Nat, ∃ k, k ≤ l.length ∧ recs ((cat l).take n) = l.take k ∧ cat (l.take k) <+: (cat l).take n ∧ (k < l.length → n < (cat (l.take (k + 1))).length)
  | [], _, n => ⟨0, Nat.le_refl _, by simp [cat, recs, scanJ], by simp [cat], fun h => by simp at h⟩
  | r :: l, h, n => by
    have hr := h r (List.mem_cons_self ..)
    by_cases hn : r.bs.length ≤ n
    · obtain ⟨k, h1, h2, h3, h4⟩ := recs_take l (fun x hx => h x (List.mem_cons_of_mem _ hx)) (n - r.bs.length)
      have ht : (cat (r :: l)).take n = r.bs ++ (cat l).take (n - r.bs.length) := by
        rw [cat_cons, List.take_append, List.take_of_length_le hn]
      refine ⟨k + 1, by simp; omega, ?_, ?_, fun hk => ?_⟩
      · rw [ht, recs_some (fst_yes hr (List.prefix_append _ _)), List.drop_left, h2]; rfl
      · rw [ht, List.take_succ_cons, cat_cons]; exact List.prefix_append_right_inj _ |>.2 h3
      · have := h4 (by simpa using hk)
        rw [List.take_succ_cons, cat_cons, List.length_append]; omega
    · have hp : (cat (r :: l)).take n <+: r.bs := by
        rw [cat_cons, List.take_append_of_le_length (by omega)]; exact List.take_prefix _ _
      have hne : (cat (r :: l)).take n ≠ r.bs := fun e => by
        have := congrArg List.length e
        rw [cat_cons, List.length_take, List.length_append] at this; omega
      exact ⟨0, Nat.zero_le _, by rw [recs_none (fst_cut hr hp hne)]; rfl, by simp [cat], fun _ => by simp [cat]; omega⟩
end Go.Proofs.Ytabbgnlabiakoaa
