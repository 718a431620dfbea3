/- Rising lists of numbers, the tip of a tree, what two ways have in common, as plain mathematics. No program. -/
import Derived.Test.YtdacclcaopmalaaTreeP
namespace Go.Proofs.Ytdacclcaopmalaa
set_option maxRecDepth 100000

/-- A rising list with one more number, each once. -/
def ins : List Int → Int → List Int
  | [], n => [n]
  | x :: l, n => if n < x then n :: x :: l else if n = x then x :: l else x :: ins l n
theorem mem_ins : ∀ {l : List Int} {n x : Int}, x ∈ ins l n ↔ x = n ∨ x ∈ l
  | [], n, x => by simp [ins]
  | y :: l, n, x => by
    unfold ins
    split
    · simp
    · split
      · rename_i h; subst h; simp
      · simp only [List.mem_cons, mem_ins (l := l)]
        constructor
        · rintro (h | h | h) <;> simp [h]
        · rintro (h | h | h) <;> simp [h]
/-- Rising, each once. -/
def Rise (l : List Int) : Prop := l.Pairwise (· < ·)
theorem Rise.ins : ∀ {l : List Int} {n : Int}, Rise l → Rise (ins l n)
  | [], n, _ => by simp [Rise, Go.Proofs.Ytdacclcaopmalaa.ins]
  | y :: l, n, h => by
    unfold Rise at h
    obtain ⟨h1, h2⟩ := List.pairwise_cons.1 h
    unfold Go.Proofs.Ytdacclcaopmalaa.ins Rise
    split
    · rename_i hlt
      refine List.pairwise_cons.2 ⟨fun x hx => ?_, h⟩
      rcases List.mem_cons.1 hx with rfl | hx
      · exact hlt
      · have := h1 x hx; omega
    · split
      · exact h
      · refine List.pairwise_cons.2 ⟨fun x hx => ?_, Rise.ins (l := l) h2⟩
        rcases mem_ins.1 hx with rfl | hx
        · omega
        · exact h1 x hx
/-- Two rising lists of the same numbers are one. -/
theorem Rise.eq : ∀ {l m : List Int}, Rise l → Rise m → (∀ x, x ∈ l ↔ x ∈ m) → l = m
  | [], [], _, _, _ => rfl
  | [], y :: m, _, _, h => by have := (h y).2 (List.mem_cons_self ..); simp at this
  | x :: l, [], _, _, h => by have := (h x).1 (List.mem_cons_self ..); simp at this
  | x :: l, y :: m, h1, h2, h => by
    obtain ⟨a1, a2⟩ := List.pairwise_cons.1 h1
    obtain ⟨b1, b2⟩ := List.pairwise_cons.1 h2
    have hxy : x = y := by
      have hx := (h x).1 (List.mem_cons_self ..)
      have hy := (h y).2 (List.mem_cons_self ..)
      rcases List.mem_cons.1 hx with e | hx
      · exact e
      · rcases List.mem_cons.1 hy with e | hy
        · exact e.symm
        · have := b1 x hx; have := a1 y hy; omega
    subst hxy
    rw [Rise.eq (l := l) (m := m) a2 b2 fun z => ?_]
    constructor
    · intro hz
      have := (h z).1 (List.mem_cons_of_mem _ hz)
      rcases List.mem_cons.1 this with e | e
      · have := a1 z hz; omega
      · exact e
    · intro hz
      have := (h z).2 (List.mem_cons_of_mem _ hz)
      rcases List.mem_cons.1 this with e | e
      · have := b1 z hz; omega
      · exact e
/-- Many numbers, rising, each once. -/
def rise (l : List Int) : List Int := l.foldl ins []
theorem mem_foldl_ins : ∀ {l a : List Int} {x : Int}, x ∈ l.foldl ins a ↔ x ∈ a ∨ x ∈ l
  | [], a, x => by simp
  | y :: l, a, x => by
    rw [List.foldl_cons, mem_foldl_ins (l := l), mem_ins, List.mem_cons]
    constructor
    · rintro ((h | h) | h) <;> simp [h]
    · rintro (h | h | h) <;> simp [h]
theorem mem_rise {l : List Int} {x : Int} : x ∈ rise l ↔ x ∈ l := by rw [rise, mem_foldl_ins]; simp
theorem Rise.foldl : ∀ {l a : List Int}, Rise a → Rise (l.foldl Go.Proofs.Ytdacclcaopmalaa.ins a)
  | [], _, h => h
  | _ :: l, _, h => Rise.foldl (l := l) h.ins
theorem rise_rise (l : List Int) : Rise (rise l) := Rise.foldl List.Pairwise.nil
theorem ins_len : ∀ {l : List Int} {n : Int}, n ∉ l → (ins l n).length = l.length + 1
  | [], n, _ => rfl
  | y :: l, n, h => by
    have h1 : n ≠ y := fun e => h (e ▸ List.mem_cons_self ..)
    have h2 : n ∉ l := fun e => h (List.mem_cons_of_mem _ e)
    unfold ins
    split
    · rfl
    · first | rw [if_neg h1] | skip
      simp [ins_len h2]
theorem foldl_ins_len : ∀ {l a : List Int}, (∀ x ∈ l, x ∉ a) → l.Nodup → (l.foldl ins a).length = a.length + l.length
  | [], a, _, _ => rfl
  | y :: l, a, h, hn => by
    obtain ⟨h1, h2⟩ := List.nodup_cons.1 hn
    rw [List.foldl_cons, foldl_ins_len (l := l) (fun x hx hm => ?_) h2, ins_len (h y (List.mem_cons_self ..)), List.length_cons]
    · omega
    · rcases mem_ins.1 hm with rfl | hm
      · exact h1 hx
      · exact h x (List.mem_cons_of_mem _ hx) hm
theorem rise_len {l : List Int} (h : l.Nodup) : (rise l).length = l.length := by
  have := foldl_ins_len (l := l) (a := []) (by simp) h
  simpa [rise] using this

namespace TrS
def names (K : List BlkD) : List Int := rise (K.map BlkD.name)
theorem mem_names {K : List BlkD} {n : Int} : n ∈ names K ↔ ∃ b ∈ K, b.name = n := by simp [names, mem_rise]
/-- The parents of those that wait that neither are known nor wait. -/
def missing (t : TrS) : List Int := rise ((t.wait.filter fun b => !ready t.known b && !has t.wait b.parent).map BlkD.parent)
theorem mem_missing {t : TrS} {n : Int} : n ∈ t.missing ↔ ∃ b ∈ t.wait, b.parent = n ∧ ready t.known b = false ∧ has t.wait n = false := by
  unfold missing
  rw [mem_rise]
  simp only [List.mem_map, List.mem_filter, Bool.and_eq_true, Bool.not_eq_true']
  constructor
  · rintro ⟨b, ⟨h1, h2, h3⟩, rfl⟩; exact ⟨b, h1, rfl, h2, h3⟩
  · rintro ⟨b, h1, rfl, h2, h3⟩; exact ⟨b, ⟨h1, h2, h3⟩, rfl⟩
/-- Of all known the highest, of these the least name. -/
structure IsTip (K : List BlkD) (n : Int) : Prop where
  mem : n = 0 ∧ K = [] ∨ ∃ b ∈ K, b.name = n
  top : ∀ b ∈ K, height K b.name < height K n ∨ height K b.name = height K n ∧ n ≤ b.name
theorem IsTip.uniq {K : List BlkD} {m n : Int} (h : IsTip K m) (k : IsTip K n) : m = n := by
  rcases h.mem with ⟨rfl, h1⟩ | ⟨b, hb, rfl⟩
  · rcases k.mem with ⟨rfl, _⟩ | ⟨c, hc, _⟩
    · rfl
    · rw [h1] at hc; simp at hc
  · rcases k.mem with ⟨_, k1⟩ | ⟨c, hc, rfl⟩
    · rw [k1] at hb; simp at hb
    · rcases h.top c hc with h2 | ⟨h2, h3⟩ <;> rcases k.top b hb with h4 | ⟨h4, h5⟩ <;> omega
/-- The tip, as one goes through rising names. -/
def tipF (K : List BlkD) (l : List Int) (best : Int) : Int := l.foldl (fun b x => if height K b < height K x then x else b) best
def tip (K : List BlkD) : Int := tipF K (names K) 0
theorem tipF_spec {K : List BlkD} : ∀ (l : List Int) (best : Int), Rise l → (∀ x ∈ l, best ≠ 0 → best < x) →
    (tipF K l best = best ∨ tipF K l best ∈ l) ∧ height K best ≤ height K (tipF K l best) ∧ (tipF K l best ≠ best → height K best < height K (tipF K l best)) ∧ ∀ x ∈ l, height K x < height K (tipF K l best) ∨ height K x = height K (tipF K l best) ∧ (tipF K l best ≤ x ∨ tipF K l best = best)
  | [], best, _, _ => by simp [tipF]
  | y :: l, best, hr, hb => by
    obtain ⟨r1, r2⟩ := List.pairwise_cons.1 hr
    by_cases hc : height K best < height K y
    · have e : tipF K (y :: l) best = tipF K l y := by simp [tipF, hc]
      obtain ⟨i1, i2, i3, i4⟩ := tipF_spec (K := K) l y r2 (fun x hx _ => r1 x hx)
      rw [e]
      refine ⟨.inr ?_, by omega, fun _ => by omega, fun x hx => ?_⟩
      · rcases i1 with h | h
        · rw [h]; exact List.mem_cons_self ..
        · exact List.mem_cons_of_mem _ h
      · rcases List.mem_cons.1 hx with rfl | hx
        · by_cases h5 : tipF K l x = x
          · rw [h5]; exact .inr ⟨rfl, .inl (Int.le_refl _)⟩
          · exact .inl (i3 h5)
        · rcases i4 x hx with h | ⟨h, h2 | h2⟩
          · exact .inl h
          · exact .inr ⟨h, .inl h2⟩
          · refine .inr ⟨h, .inl ?_⟩
            rw [h2]; have := r1 x hx; omega
    · have e : tipF K (y :: l) best = tipF K l best := by simp [tipF, hc]
      obtain ⟨i1, i2, i3, i4⟩ := tipF_spec (K := K) l best r2 (fun x hx h => hb x (List.mem_cons_of_mem _ hx) h)
      rw [e]
      refine ⟨i1.imp id (List.mem_cons_of_mem _), i2, i3, fun x hx => ?_⟩
      rcases List.mem_cons.1 hx with rfl | hx
      · by_cases h5 : tipF K l best = best
        · rw [h5]
          rcases Int.lt_or_eq_of_le (show height K x ≤ height K best by omega) with h | h
          · exact .inl h
          · exact .inr ⟨h, .inr rfl⟩
        · have := i3 h5; omega
      · exact i4 x hx
theorem Uq.height_pos {K : List BlkD} (h : Uq K) {b : BlkD} (hb : b ∈ K) : 0 < TrS.height K b.name := by
  unfold TrS.height
  rw [if_neg (h.right b hb).name0, h.get hb, h.path hb]
  simp
theorem height_zero (K : List BlkD) : height K 0 = 0 := if_pos rfl
theorem Uq.tip {K : List BlkD} (h : Uq K) : IsTip K (TrS.tip K) := by
  obtain ⟨i1, i2, i3, i4⟩ := tipF_spec (K := K) (names K) 0 (rise_rise _) (fun _ _ h => absurd rfl h)
  have hne : ∀ b ∈ K, tipF K (names K) 0 ≠ 0 := fun b hb he => by
    have h1 := h.height_pos hb
    rcases i4 b.name (mem_names.2 ⟨b, hb, rfl⟩) with h2 | ⟨h2, _⟩ <;> rw [he, height_zero] at h2 <;> omega
  refine ⟨?_, fun b hb => ?_⟩
  · rcases i1 with h1 | h1
    · refine .inl ⟨h1, ?_⟩
      cases K with
      | nil => rfl
      | cons b K => exact absurd h1 (hne b (List.mem_cons_self ..))
    · exact .inr (mem_names.1 h1)
  · rcases i4 b.name (mem_names.2 ⟨b, hb, rfl⟩) with h2 | ⟨h2, h3 | h3⟩
    · exact .inl h2
    · exact .inr ⟨h2, h3⟩
    · exact absurd h3 (hne b hb)
/-- What two lists begin with alike. -/
def lcp : List Int → List Int → List Int
  | a :: p, b :: q => if a = b then a :: lcp p q else []
  | _, _ => []
theorem lcp_pre : ∀ (p q : List Int), lcp p q <+: p ∧ lcp p q <+: q
  | [], _ => by simp [lcp]
  | _ :: _, [] => by simp [lcp]
  | a :: p, b :: q => by
    unfold lcp
    split
    · rename_i h; subst h
      obtain ⟨h1, h2⟩ := lcp_pre p q
      exact ⟨List.cons_prefix_cons.2 ⟨rfl, h1⟩, List.cons_prefix_cons.2 ⟨rfl, h2⟩⟩
    · exact ⟨List.nil_prefix, List.nil_prefix⟩
theorem lcp_comm : ∀ (p q : List Int), lcp p q = lcp q p
  | [], [] => rfl
  | [], _ :: _ => rfl
  | _ :: _, [] => rfl
  | a :: p, b :: q => by
    unfold lcp
    by_cases h : a = b
    · rw [if_pos h, if_pos h.symm, h, lcp_comm p q]
    · rw [if_neg h, if_neg fun e => h e.symm]
theorem lcp_self : ∀ (p : List Int), lcp p p = p
  | [] => rfl
  | a :: p => by unfold lcp; rw [if_pos rfl, lcp_self p]
/-- The next ones are unlike. -/
theorem lcp_next : ∀ (p q : List Int) (a b : Int), p[(lcp p q).length]? = some a → q[(lcp p q).length]? = some b → a ≠ b
  | [], _, a, b, h, _ => by simp at h
  | _ :: _, [], a, b, _, h => by simp at h
  | x :: p, y :: q, a, b, h1, h2 => by
    by_cases h : x = y
    · have e : lcp (x :: p) (y :: q) = x :: lcp p q := by simp [lcp, h]
      rw [e] at h1 h2
      exact lcp_next p q a b (by simpa using h1) (by simpa using h2)
    · have e : lcp (x :: p) (y :: q) = [] := by simp [lcp, h]
      rw [e] at h1 h2
      simp only [List.length_nil, List.getElem?_cons_zero, Option.some.injEq] at h1 h2
      subst h1 h2; exact h
theorem filter_lcp : ∀ (p q : List Int), p.Nodup → (∀ x ∈ p, x ∈ q → ∃ r, r ++ [x] <+: p ∧ r ++ [x] <+: q) → p.filter (fun x => decide (x ∈ q)) = lcp p q
  | [], q, _, _ => by simp [lcp]
  | a :: p, [], _, _ => by simp [lcp]
  | a :: p, b :: q, hn, h => by
    obtain ⟨hn1, hn2⟩ := List.nodup_cons.1 hn
    by_cases e : a = b
    · subst e
      have e1 : lcp (a :: p) (a :: q) = a :: lcp p q := by simp [lcp]
      rw [e1, List.filter_cons_of_pos (by simp)]
      congr 1
      have e2 : p.filter (fun x => decide (x ∈ a :: q)) = p.filter (fun x => decide (x ∈ q)) := by
        refine List.filter_congr fun x hx => ?_
        have : x ≠ a := fun e => hn1 (e ▸ hx)
        simp [this]
      rw [e2]
      refine filter_lcp p q hn2 fun x hx hq => ?_
      obtain ⟨r, g1, g2⟩ := h x (List.mem_cons_of_mem _ hx) (List.mem_cons_of_mem _ hq)
      cases r with
      | nil =>
        have := (List.cons_prefix_cons.1 g1).1
        exact absurd hx (this ▸ hn1)
      | cons c r => exact ⟨r, (List.cons_prefix_cons.1 g1).2, (List.cons_prefix_cons.1 g2).2⟩
    · have e1 : lcp (a :: p) (b :: q) = [] := by simp [lcp, e]
      rw [e1, List.filter_eq_nil_iff]
      intro x hx hq
      obtain ⟨r, g1, g2⟩ := h x hx (by simpa using hq)
      cases r with
      | nil => exact e ((List.cons_prefix_cons.1 g1).1.symm.trans (List.cons_prefix_cons.1 g2).1)
      | cons c r => exact e ((List.cons_prefix_cons.1 g1).1.symm.trans (List.cons_prefix_cons.1 g2).1)
/-- The last one that is on both ways. -/
def common (K : List BlkD) (a b : Int) : Int := ((lcp (path K a) (path K b)).getLast?).getD 0
theorem foldl_last (q : List Int) : ∀ (p : List Int) (o : Int), p.foldl (fun o x => if x ∈ q then x else o) o = ((p.filter fun x => decide (x ∈ q)).getLast?).getD o
  | [], o => rfl
  | a :: p, o => by
    rw [List.foldl_cons]
    by_cases h : a ∈ q
    · rw [if_pos h, foldl_last q p a, List.filter_cons_of_pos (by simpa using h), List.getLast?_cons]
      simp
    · rw [if_neg h, foldl_last q p o, List.filter_cons_of_neg (by simpa using h)]
theorem path_get {K : List BlkD} {n : Int} {c : Int} (hc : c ∈ TrS.path K n) : ∃ b ∈ K, b.name = n := by
  cases hg : TrS.get K n with
  | none => rw [path_none hg] at hc; simp at hc
  | some b => obtain ⟨h1, h2⟩ := get_some hg; exact ⟨b, h1, h2⟩
/-- The slots rise on a way. -/
theorem Uq.path_slots {K : List BlkD} (h : Uq K) (hs : Stood K) : ∀ b ∈ K, (TrS.path K b.name).Pairwise (fun x y => x / 65536 < y / 65536) ∧ ∀ x ∈ TrS.path K b.name, x / 65536 ≤ b.slot := by
  intro b hb
  have hg := hs.gr (L := K) (fun x hx => hx) b hb
  induction hg with
  | @base b h1 h2 =>
    rw [h.path h1, h2, h.path_zero, List.nil_append]
    refine ⟨List.pairwise_singleton .., fun x hx => ?_⟩
    rw [List.mem_singleton] at hx
    rw [hx, (h.right b h1).slot_name]; exact Int.le_refl _
  | @step b c h1 h2 h3 ih =>
    obtain ⟨i1, i2⟩ := ih h2.mem
    have h4 := h.slot_lt h1 h2.mem h3
    rw [h.path h1, ← h3]
    refine ⟨List.pairwise_append.2 ⟨i1, List.pairwise_singleton .., fun x hx y hy => ?_⟩, fun x hx => ?_⟩
    · rw [List.mem_singleton] at hy
      have := i2 x hx
      rw [hy, (h.right b h1).slot_name]; omega
    · rcases List.mem_append.1 hx with hx | hx
      · have := i2 x hx; omega
      · rw [List.mem_singleton] at hx
        rw [hx, (h.right b h1).slot_name]; exact Int.le_refl _
theorem Uq.path_nodup {K : List BlkD} (h : Uq K) (hs : Stood K) (n : Int) : (TrS.path K n).Nodup := by
  cases hg : TrS.get K n with
  | none => rw [path_none hg]; exact List.Pairwise.nil
  | some b =>
    obtain ⟨h1, rfl⟩ := get_some hg
    exact (h.path_slots hs b h1).1.imp fun h e => by rw [e] at h; omega
theorem Uq.path_end {K : List BlkD} (h : Uq K) {n : Int} {b : BlkD} (hb : b ∈ K) (hn : b.name = n) : ∃ r, TrS.path K n = r ++ [n] := ⟨TrS.path K b.parent, by rw [← hn]; exact h.path hb⟩
theorem Uq.filter_path {K : List BlkD} (h : Uq K) (hs : Stood K) (a b : Int) : (TrS.path K a).filter (fun x => decide (x ∈ TrS.path K b)) = lcp (TrS.path K a) (TrS.path K b) := by
  refine filter_lcp _ _ (h.path_nodup hs a) fun x h1 h2 => ?_
  obtain ⟨c, hc, rfl⟩ := path_get h1
  obtain ⟨d, hd, rfl⟩ := path_get h2
  obtain ⟨e, he, g1, g2⟩ := h.path_pre hs c hc x h1
  obtain ⟨_, _, _, g3⟩ := h.path_pre hs d hd x h2
  obtain ⟨r, hr⟩ := h.path_end he g1
  rw [hr] at g2 g3
  exact ⟨r, g2, g3⟩
theorem Uq.common {K : List BlkD} (h : Uq K) (hs : Stood K) (a b : Int) : (TrS.path K a).foldl (fun o x => if x ∈ TrS.path K b then x else o) 0 = TrS.common K a b := by
  rw [foldl_last, h.filter_path hs]; rfl
end TrS
end Go.Proofs.Ytdacclcaopmalaa
