/- A chain with one winner in each slot is one way: plain mathematics. -/
import Derived.Test.YtpnbkgeglgiihaaCLw
import Derived.Test.YtpnbkgeglgiihaaTRB
namespace Go.Proofs.Ytpnbkgeglgiihaa
set_option maxRecDepth 100000
open Go.RowKit

/-- All that is known is one way, in its order. -/
structure Line (K : List BlkD) : Prop where
  good : TrS.Good ⟨K, []⟩
  way : TrS.path K (TrS.tip K) = K.map BlkD.name
theorem Line.nil : Line [] := ⟨TrS.Good.nil, by rw [show TrS.tip [] = 0 from rfl]; exact TrS.path_none rfl⟩
/-- The last one of the first i. -/
def eN (K : List BlkD) (i : Nat) : Int := (((K.map BlkD.name).take i).getLast?).getD 0
theorem back_eN (K : List BlkD) (deep : Int) : backN (K.map BlkD.name) deep = eN K (K.length - deep.toNat) := by
  unfold backN eN; rw [List.length_map]
theorem eN_more {K : List BlkD} {b : BlkD} {i : Nat} (hi : i ≤ K.length) : eN (K ++ [b]) i = eN K i := by
  unfold eN
  rw [List.map_append, List.take_append_of_le_length (by rw [List.length_map]; exact hi)]
theorem lcp_pref : ∀ (q r : List Int), TrS.lcp (q ++ r) q = q
  | [], r => by cases r <;> simp [TrS.lcp]
  | a :: q, r => by simp [TrS.lcp, lcp_pref q r]
section
variable {K : List BlkD}
theorem Line.nodup (h : Line K) : (K.map BlkD.name).Nodup := by
  have := h.good.nodup
  simpa using this
theorem Line.path (h : Line K) (i : Nat) (hi : i ≤ K.length) : TrS.path K (eN K i) = (K.map BlkD.name).take i := by
  cases i with
  | zero =>
    have : eN K 0 = 0 := by simp [eN]
    rw [this, h.good.uq.path_zero, List.take_zero]
  | succ i =>
    obtain ⟨x, hx⟩ : ∃ x, (K.map BlkD.name)[i]? = some x := ⟨_, List.getElem?_eq_getElem (by rw [List.length_map]; omega)⟩
    have ht : (K.map BlkD.name).take (i + 1) = (K.map BlkD.name).take i ++ [x] := by rw [List.take_add_one, hx]; rfl
    have e : eN K (i + 1) = x := by unfold eN; rw [ht]; simp
    rw [e]
    have hxm : x ∈ TrS.path K (TrS.tip K) := by rw [h.way]; exact List.mem_of_getElem? hx
    obtain ⟨b, hb, hbn⟩ := TrS.path_get hxm
    rw [← hbn] at hxm
    obtain ⟨c, hc, hcn, hpre⟩ := h.good.uq.path_pre h.good.stood b hb x hxm
    rw [hbn, h.way] at hpre
    obtain ⟨r, hr⟩ := h.good.uq.path_end hc hcn
    rw [hr] at hpre ⊢
    have h2 : (K.map BlkD.name).take i ++ [x] <+: K.map BlkD.name := ht ▸ List.take_prefix _ _
    have hl := prefix_end h.nodup hpre h2
    obtain ⟨s1, q1⟩ := hpre
    obtain ⟨s2, q2⟩ := h2
    have := List.append_inj (q1.trans q2.symm) (by rw [List.length_append, List.length_append, hl])
    rw [ht]; exact this.1
theorem Line.common (h : Line K) {i j : Nat} (hij : i ≤ j) (hj : j ≤ K.length) : TrS.common K (eN K j) (eN K i) = eN K i := by
  unfold TrS.common
  rw [h.path j hj, h.path i (by omega)]
  have e : (K.map BlkD.name).take j = (K.map BlkD.name).take i ++ ((K.map BlkD.name).take j).drop i := by
    conv => lhs; rw [← List.take_append_drop i ((K.map BlkD.name).take j)]
    rw [List.take_take, Nat.min_eq_left hij]
  rw [e, lcp_pref]
  rfl
theorem Line.high (h : Line K) : TrS.height K (TrS.tip K) = (K.length : Int) := by
  rcases (show TrS.tip K = 0 ∧ K = [] ∨ ∃ b ∈ K, b.name = TrS.tip K from h.good.uq.tip.mem) with ⟨h0, h1⟩ | ⟨c, hc, hn⟩
  · rw [h0, TrS.height_zero, h1]; rfl
  · have := high_len h.good.uq hc
    rw [hn, h.way, List.length_map] at this; exact this
/-- One more. -/
theorem Line.step (h : Line K) {ds : List Int} {slot me : Int} (hD : DrOk ds) (hw : win ds slot me = true) (hs : ∀ b ∈ K, b.slot < slot) (hk : K.length < 400) :
    ∃ b, mkB slot me K [] = b ∧ b.slot = slot ∧ b.parent = TrS.tip K ∧ b.txs = [] ∧ b.Right ∧ mkOk ds slot me K [] = true ∧ tkOk ds slot ⟨K, []⟩ b = true ∧ TrS.add ⟨K, []⟩ b = (⟨K ++ [b], []⟩, [b.name], true) ∧ Line (K ++ [b]) ∧ TrS.height (K ++ [b]) b.name = (K.length : Int) + 1 := by
  have hunu : unu (ids K (TrS.tip K)) [] = [] := by simp [unu]
  obtain ⟨b, hb⟩ : ∃ b : BlkD, b = ⟨slot, me, 0, TrS.tip K, []⟩ := ⟨_, rfl⟩
  have hmk : mkB slot me K [] = b := by rw [mkB, hunu, hb]
  obtain ⟨w1, w2, w3, w4⟩ := win_in hw
  have hl := hD.1
  have htip : TrS.tip K = 0 ∨ ∃ c ∈ K, c.name = TrS.tip K := h.good.uq.tip.mem.imp And.left id
  have hr : b.Right := by
    rw [hb]
    refine ⟨⟨w1, by show slot ≤ 4095; omega⟩, ⟨w3, w4⟩, ⟨by simp, by simp⟩, ?_, ⟨by simp, by simp, by simp⟩⟩
    rcases htip with h0 | ⟨c, hc, hn⟩
    · exact .inl h0
    · have hcr := h.good.uq.right c hc
      obtain ⟨p1, _, _, p4⟩ := hcr.parts
      refine .inr ?_
      show NmOk (TrS.tip K) ∧ TrS.tip K / 65536 < slot
      rw [← hn, hcr.nm, p1]
      exact ⟨p4, hs c hc⟩
  have hbs : b.slot = slot := by rw [hb]
  have hbm : b.miner = me := by rw [hb]
  have hbp : b.parent = TrS.tip K := by rw [hb]
  have hno : ∀ x ∈ K, x.name ≠ b.name := fun x hx e => by
    have h1 := (h.good.uq.right x hx).slot_name
    have h2 := hr.slot_name
    rw [e, h2, hbs] at h1
    have := hs x hx; omega
  have hc : ¬ (b.name = 0 ∨ TrS.has K b.name = true ∨ TrS.has [] b.name = true) := by
    rintro (h0 | h0 | h0)
    · exact hr.name0 h0
    · obtain ⟨x, hx, e⟩ := TrS.has_iff.1 h0
      exact hno x hx e
    · simp [TrS.has] at h0
  have hrd : TrS.ready K b = true := TrS.ready_iff.2 (by rw [hbp]; exact htip)
  have hadd : TrS.add ⟨K, []⟩ b = (⟨K ++ [b], []⟩, [b.name], true) := by rw [add_c4 hc hrd hk]; rfl
  have hg2 : TrS.Good ⟨K ++ [b], []⟩ := by
    have := add_good (d := b) h.good
    rw [hadd] at this; exact this
  have hbk : b ∈ K ++ [b] := by simp
  have hKs : ∀ x ∈ K, x ∈ K ++ [b] := fun x hx => List.mem_append_left _ hx
  have hpar : TrS.path (K ++ [b]) (TrS.tip K) = K.map BlkD.name := by
    rw [← h.way]
    rcases htip with h0 | ⟨c, hc, hn⟩
    · rw [h0, hg2.uq.path_zero, h.good.uq.path_zero]
    · rw [← hn]; exact h.good.uq.path_mono hg2.uq h.good.stood hKs c hc
  have hpb : TrS.path (K ++ [b]) b.name = (K ++ [b]).map BlkD.name := by
    rw [hg2.uq.path hbk, hbp, hpar, List.map_append]; rfl
  have hhb : TrS.height (K ++ [b]) b.name = (K.length : Int) + 1 := by
    rw [high_len hg2.uq hbk, hpb]; simp
  have hit : TrS.IsTip (K ++ [b]) b.name := by
    refine ⟨.inr ⟨b, hbk, rfl⟩, fun x hx => ?_⟩
    rcases List.mem_append.1 hx with hx | hx
    · left
      rw [hhb, height_mono h.good.uq hg2.uq h.good.stood hKs hx]
      have := h.good.uq.tip.top x hx
      rw [h.high] at this
      rcases this with h1 | ⟨h1, _⟩ <;> omega
    · rw [List.mem_singleton] at hx; subst hx
      exact .inr ⟨rfl, Int.le_refl _⟩
  refine ⟨b, hmk, hbs, hbp, by rw [hb], hr, ?_, ?_, hadd, ⟨hg2, ?_⟩, hhb⟩
  · unfold mkOk; rw [hw, hmk, decide_eq_true hr]; rfl
  · unfold tkOk; rw [hbs, hbm, hw, hadd, decide_eq_false (Int.lt_irrefl _)]; rfl
  · rw [hit.uniq hg2.uq.tip] at hpb; exact hpb
end
/-- With one winner at most in each slot. -/
theorem sgl_one {ds who : List Int} (h : sgl ds who = true) {k : Nat} (hk : k < ds.length) : (wns ds ((k : Int) + 1)).length ≤ 1 := (of_decide_eq_true h k hk).1
theorem wns_win {ds : List Int} {s x : Int} (h : x ∈ wns ds s) : win ds s x = true := by
  obtain ⟨i, _, h1, h2⟩ := pk_mem.1 h
  rw [h2]; simpa using h1
end Go.Proofs.Ytpnbkgeglgiihaa
