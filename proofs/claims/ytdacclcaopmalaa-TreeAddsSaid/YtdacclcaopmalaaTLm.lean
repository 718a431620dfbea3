/- What a tree of blocks says, as the statements ask it: plain mathematics. -/
import Derived.Test.YtdacclcaopmalaaTLb
namespace Go.Proofs.Ytdacclcaopmalaa
set_option maxRecDepth 100000
open Go.RowKit

section
variable {K : List BlkD} {b : BlkD}
theorem getOr_mem (h : TrS.Uq K) (hb : b ∈ K) : getOr K b.name = b := by rw [getOr, h.get hb]; rfl
theorem has_of (hb : b ∈ K) : TrS.has K b.name = true := TrS.has_iff.2 ⟨b, hb, rfl⟩
theorem parent_has (h : TrS.Stood K) (hb : b ∈ K) (h0 : b.parent ≠ 0) : TrS.has K b.parent = true := by
  induction h with
  | nil => cases hb
  | @snoc K c _ hr ih =>
    have mono : ∀ {n}, TrS.has K n = true → TrS.has (K ++ [c]) n = true := fun h => by
      obtain ⟨x, hx, hn⟩ := TrS.has_iff.1 h
      exact TrS.has_iff.2 ⟨x, List.mem_append_left _ hx, hn⟩
    rcases List.mem_append.1 hb with hb | hb
    · exact mono (ih hb)
    · simp at hb; subst hb
      rcases TrS.ready_iff.1 hr with h | h
      · exact absurd h h0
      · exact mono (TrS.has_iff.2 h)
theorem high_len (h : TrS.Uq K) (hb : b ∈ K) : TrS.height K b.name = ((TrS.path K b.name).length : Int) := by
  have h0 := (h.right b hb).name0
  unfold TrS.height
  rw [if_neg h0, h.get hb]; rfl
theorem back_one (h : TrS.Uq K) (hs : TrS.Stood K) (hb : b ∈ K) : backN (TrS.path K b.name) 1 = b.parent := by
  rw [h.path hb]
  unfold backN
  rw [List.length_append, List.length_singleton, show (TrS.path K b.parent).length + 1 - (1 : Int).toNat = (TrS.path K b.parent).length from by simp, List.take_left']
  · by_cases h0 : b.parent = 0
    · rw [h0, h.path_zero]; rfl
    · obtain ⟨c, hc, hn⟩ := TrS.has_iff.1 (parent_has hs hb h0)
      obtain ⟨r, hr⟩ := h.path_end hc hn
      rw [hr]; simp
  · rfl
theorem back_all (L : List Int) : backN L (L.length : Int) = 0 := by
  unfold backN; simp
theorem back_first {x : Int} {L : List Int} (h : L[0]? = some x) : backN L ((L.length : Int) - 1) = x := by
  cases L with
  | nil => simp at h
  | cons y L =>
    simp at h; subst h
    unfold backN
    rw [show (y :: L).length - (((y :: L).length : Int) - 1).toNat = 1 from by simp]
    rfl
end

theorem retH {f : FuncId} {args : Array Value} {w : World} {u : Value} (h : Calls Try.prog f args w fun e w' => e = .returned u ∧ Ext w w') : Calls Try.prog f args w fun e w' => ∃ v', e = .returned v' ∧ Ext w w' ∧ Sp.p (.val u) v' w' := by
  refine h.mono ?_
  rintro e w' ⟨rfl, hx⟩
  exact ⟨_, rfl, hx, rfl⟩
theorem prefix_end {l p1 p2 : List Int} {c : Int} (hn : l.Nodup) (h1 : p1 ++ [c] <+: l) (h2 : p2 ++ [c] <+: l) : p1.length = p2.length := by
  obtain ⟨s1, rfl⟩ := h1
  obtain ⟨s2, h2⟩ := h2
  have e1 : (p1 ++ [c] ++ s1)[p1.length]? = some c := by simp
  have e2 : (p1 ++ [c] ++ s1)[p2.length]? = some c := by rw [← h2]; simp
  have l1 := (List.getElem?_eq_some_iff.1 e1).1
  exact (List.getElem?_inj l1 hn).1 (e1.trans e2.symm)
section
variable {K : List BlkD} {a b : Int}
theorem common_ne (h0 : TrS.common K a b ≠ 0) : TrS.has K a = true ∧ TrS.has K b = true := by
  have key : ∀ n, TrS.has K n = false → TrS.path K n = [] := fun n hn => TrS.path_none (by
    have := get_has (K := K) (n := n)
    rw [hn] at this
    cases hg : TrS.get K n with
    | none => rfl
    | some d => rw [hg] at this; cases this)
  constructor
  · cases h : TrS.has K a with
    | true => rfl
    | false => exact absurd (by rw [TrS.common, key a h]; simp [TrS.lcp]) h0
  · cases h : TrS.has K b with
    | true => rfl
    | false => exact absurd (by rw [TrS.common, key b h]; cases TrS.path K a <;> simp [TrS.lcp]) h0
theorem common_self (h : TrS.Uq K) (ha : TrS.has K a = true) : TrS.common K a a = a := by
  obtain ⟨c, hc, rfl⟩ := TrS.has_iff.1 ha
  rw [TrS.common, TrS.lcp_self]
  obtain ⟨r, hr⟩ := h.path_end hc rfl
  rw [hr]; simp
theorem common_comm : TrS.common K b a = TrS.common K a b := by rw [TrS.common, TrS.common, TrS.lcp_comm]
theorem common_high (h : TrS.Uq K) (hs : TrS.Stood K) : TrS.height K (TrS.common K a b) = ((TrS.lcp (TrS.path K a) (TrS.path K b)).length : Int) ∧ (TrS.common K a b = 0 ∨ ∃ c ∈ K, c.name = TrS.common K a b) := by
  obtain ⟨h1, h2⟩ := TrS.lcp_pre (TrS.path K a) (TrS.path K b)
  rcases List.eq_nil_or_concat (TrS.lcp (TrS.path K a) (TrS.path K b)) with he | ⟨r, c, he⟩
  · have e : TrS.common K a b = 0 := by rw [TrS.common, he]; rfl
    rw [e, he, TrS.height_zero]
    exact ⟨rfl, .inl rfl⟩
  · rw [List.concat_eq_append] at he
    have e : TrS.common K a b = c := by rw [TrS.common, he]; simp
    have hca : c ∈ TrS.path K a := h1.subset (by rw [he]; simp)
    obtain ⟨x, hx, rfl⟩ := TrS.path_get hca
    obtain ⟨d, hd, rfl, hpre⟩ := h.path_pre hs x hx c hca
    obtain ⟨r2, hr2⟩ := h.path_end hd rfl
    have hl := prefix_end (h.path_nodup hs x.name) (he ▸ h1) (hr2 ▸ hpre)
    rw [e, high_len h hd, he, hr2]
    exact ⟨by simp; omega, .inr ⟨d, hd, rfl⟩⟩
end
end Go.Proofs.Ytdacclcaopmalaa
