/- Which messages can be, kind by kind. No program. -/
import Derived.Test.YtgbhbifdfcfamaaMsgN
namespace Go.Proofs.Ytgbhbifdfcfamaa
set_option maxRecDepth 100000

/-- What is left of a message when what its kind has is struck. -/
def MsgD.bare (d : MsgD) : MsgD := ⟨d.kd, d.fm, 0, 0, 0, 0, TxD.zero, BlkD.zero⟩
section
variable {d : MsgD}
theorem fin_0 (hk : d.kd = 0) (hf : In 0 6 d.fm) (ht : d.tx.Right) : decide d.Right = decide ((⟨d.kd, d.fm, d.ix, d.vw, d.vl, d.pr, TxD.zero, d.bk⟩ : MsgD) = d.bare) := by
  apply decide_eq_decide.2
  simp only [MsgD.Right, MsgD.bare, MsgD.mk.injEq, true_and, hf, show In 0 6 0 from by decide, hk, ht]
  simp
  exact ⟨fun ⟨a, b, c, e, f⟩ => ⟨b, c, e, f, a⟩, fun ⟨b, c, e, f, a⟩ => ⟨a, b, c, e, f⟩⟩
theorem fin_1 (hk : d.kd = 1) (hf : In 0 6 d.fm) (ht : d.bk.Right) : decide d.Right = decide ((⟨d.kd, d.fm, d.ix, d.vw, d.vl, d.pr, d.tx, BlkD.zero⟩ : MsgD) = d.bare) := by
  apply decide_eq_decide.2
  simp only [MsgD.Right, MsgD.bare, MsgD.mk.injEq, true_and, hf, show In 0 6 1 from by decide, hk, ht]
  simp
  exact ⟨fun ⟨a, b, c, e, f⟩ => ⟨b, c, e, f, a⟩, fun ⟨b, c, e, f, a⟩ => ⟨a, b, c, e, f⟩⟩
theorem fin_2 (hk : d.kd = 2) (hf : In 0 6 d.fm) (hv : VOk d.kd d.vl) : decide d.Right = decide ((⟨d.kd, d.fm, d.ix, d.vw, 0, d.pr, d.tx, d.bk⟩ : MsgD) = d.bare) := by
  apply decide_eq_decide.2
  rw [hk] at hv
  simp only [MsgD.Right, MsgD.bare, MsgD.mk.injEq, true_and, hf, show In 0 6 2 from by decide, hk, hv]
  simp
  exact ⟨fun ⟨a, b, c, e, f⟩ => ⟨c, e, f, a, b⟩, fun ⟨c, e, f, a, b⟩ => ⟨a, b, c, e, f⟩⟩
theorem fin_3 (hk : d.kd = 3) (hf : In 0 6 d.fm) (hp : -1 ≤ d.pr ∧ d.pr < d.vw) (hw : In 0 1000 d.vw) (hi : In 0 1000 d.ix) (hv : VOk d.kd d.vl) : decide d.Right = decide ((⟨d.kd, d.fm, 0, 0, 0, 0, d.tx, d.bk⟩ : MsgD) = d.bare) := by
  apply decide_eq_decide.2
  rw [hk] at hv
  simp only [MsgD.Right, MsgD.bare, MsgD.mk.injEq, true_and, hf, show In 0 6 3 from by decide, hk, hv, hp, hw, hi]
  simp
theorem fin_45 (hk : d.kd = 4 ∨ d.kd = 5) (hf : In 0 6 d.fm) (hw : In 0 1000 d.vw) (hi : In 0 1000 d.ix) (hv : VOk d.kd d.vl) : decide d.Right = decide ((⟨d.kd, d.fm, 0, 0, 0, d.pr, d.tx, d.bk⟩ : MsgD) = d.bare) := by
  apply decide_eq_decide.2
  rcases hk with hk | hk
  all_goals
    rw [hk] at hv
    simp only [MsgD.Right, MsgD.bare, MsgD.mk.injEq, true_and, hf, show In 0 6 4 from by decide, show In 0 6 5 from by decide, hk, hv, hw, hi]
    simp
    exact ⟨fun ⟨a, b, c⟩ => ⟨c, a, b⟩, fun ⟨c, a, b⟩ => ⟨a, b, c⟩⟩
theorem fin_6 (hk : d.kd = 6) (hf : In 0 6 d.fm) (hi : In 0 1000 d.ix) (hv : VOk d.kd d.vl) : decide d.Right = decide ((⟨d.kd, d.fm, 0, d.vw, 0, d.pr, d.tx, d.bk⟩ : MsgD) = d.bare) := by
  apply decide_eq_decide.2
  rw [hk] at hv
  simp only [MsgD.Right, MsgD.bare, MsgD.mk.injEq, true_and, hf, show In 0 6 6 from by decide, hk, hv, hi]
  simp
  exact ⟨fun ⟨a, b, c, e⟩ => ⟨c, e, a, b⟩, fun ⟨c, e, a, b⟩ => ⟨a, b, c, e⟩⟩
/-- The values that are names, or nothing. -/
def NV (n : Int) : Prop := n = 0 ∨ NmOk n
instance (n : Int) : Decidable (NV n) := by unfold NV; infer_instance
/-- A message that has what its kind doesn't. -/
def Bad (d : MsgD) : Prop := (d.kd ≠ 0 ∧ d.tx ≠ TxD.zero) ∨ (d.kd ≠ 1 ∧ d.bk ≠ BlkD.zero) ∨ (d.kd ≠ 3 ∧ d.pr ≠ 0)
instance (d : MsgD) : Decidable (Bad d) := by unfold Bad; infer_instance
theorem good_tx (h : ¬ Bad d) (hk : d.kd ≠ 0) : d.tx = TxD.zero := by
  by_cases e : d.tx = TxD.zero
  · exact e
  · exact absurd (.inl ⟨hk, e⟩) h
theorem good_bk (h : ¬ Bad d) (hk : d.kd ≠ 1) : d.bk = BlkD.zero := by
  by_cases e : d.bk = BlkD.zero
  · exact e
  · exact absurd (.inr (.inl ⟨hk, e⟩)) h
theorem good_pr (h : ¬ Bad d) (hk : d.kd ≠ 3) : d.pr = 0 := by
  by_cases e : d.pr = 0
  · exact e
  · exact absurd (.inr (.inr ⟨hk, e⟩)) h
theorem ref_0 (hk : d.kd = 0) (hf : In 0 6 d.fm) (hg : ¬ Bad d) (hi : d.ix = 0) (hv : d.vw = 0) (hl : d.vl = 0) : decide d.Right = decide d.tx.Right := by
  apply decide_eq_decide.2
  simp only [MsgD.Right, hf, hk, show In 0 6 0 from by decide, good_bk hg (by omega), good_pr hg (by omega), hi, hv, hl]
  simp
theorem ref_1 (hk : d.kd = 1) (hf : In 0 6 d.fm) (hg : ¬ Bad d) (hi : d.ix = 0) (hv : d.vw = 0) (hl : d.vl = 0) : decide d.Right = decide d.bk.Right := by
  apply decide_eq_decide.2
  simp only [MsgD.Right, hf, hk, show In 0 6 1 from by decide, good_tx hg (by omega), good_pr hg (by omega), hi, hv, hl]
  simp
theorem vOk_nv {k v : Int} (hk : k ≠ 4 ∧ k ≠ 5) : VOk k v ↔ NV v := ⟨fun h => h.elim (fun h => by omega) (fun h => h), fun h => .inr h⟩
theorem vOk_nv' {k v : Int} (hk : k = 4 ∨ k = 5) : VOk k v ↔ v = -1 ∨ NV v := ⟨fun h => h.elim (fun h => .inl h.1) .inr, fun h => h.elim (fun h => .inl ⟨h, hk⟩) .inr⟩
theorem ref_2 (hk : d.kd = 2) (hf : In 0 6 d.fm) (hg : ¬ Bad d) (hi : d.ix = 0) (hv : d.vw = 0) : decide d.Right = decide (NV d.vl) := by
  apply decide_eq_decide.2
  simp only [MsgD.Right, hf, hk, show In 0 6 2 from by decide, good_tx hg (by omega), good_bk hg (by omega), good_pr hg (by omega), hi, hv]
  simpa using vOk_nv (by omega)
theorem ref_3 (hk : d.kd = 3) (hf : In 0 6 d.fm) (hg : ¬ Bad d) (hi : In 0 1000 d.ix) (hv : In 0 1000 d.vw) (hn : NV d.vl) (hp : -1 ≤ d.pr) : decide d.Right = decide (d.pr < d.vw) := by
  apply decide_eq_decide.2
  simp only [MsgD.Right, hf, hk, show In 0 6 3 from by decide, good_tx hg (by omega), good_bk hg (by omega), hi, hv, (vOk_nv (k := 3) (by omega)).2 hn, hp]
  simp
theorem ref_45 (hk : d.kd = 4 ∨ d.kd = 5) (hf : In 0 6 d.fm) (hg : ¬ Bad d) (hi : In 0 1000 d.ix) (hv : In 0 1000 d.vw) : d.Right ↔ d.vl = -1 ∨ NV d.vl := by
  have h0 : In 0 6 d.kd := by unfold In; omega
  simp only [MsgD.Right, hf, h0, good_tx hg (by omega), good_bk hg (by omega), good_pr hg (by omega), hi, hv]
  have e0 : ¬ d.kd = 0 := by omega
  have e1 : ¬ d.kd = 1 := by omega
  have e2 : 2 ≤ d.kd := by omega
  have e3 : 3 ≤ d.kd := by omega
  have e5 : d.kd ≤ 5 := by omega
  have e6 : ¬ d.kd = 3 := by omega
  simpa [e0, e1, e2, e3, e5, e6] using vOk_nv' hk
theorem ref_6 (hk : d.kd = 6) (hf : In 0 6 d.fm) (hg : ¬ Bad d) (hi : In 0 1000 d.ix) (hv : d.vw = 0) : decide d.Right = decide (NV d.vl) := by
  apply decide_eq_decide.2
  simp only [MsgD.Right, hf, hk, show In 0 6 6 from by decide, good_tx hg (by omega), good_bk hg (by omega), good_pr hg (by omega), hi, hv]
  simpa using vOk_nv (by omega)
/-- What a message that can be has, kind by kind. -/
theorem MsgD.Right.fm (h : d.Right) : In 0 6 d.fm := h.1
theorem MsgD.Right.kd6 (h : d.Right) : In 0 6 d.kd := h.2.1
theorem MsgD.Right.txOk (h : d.Right) (hk : d.kd = 0) : d.tx.Right := by have := h.2.2.1; rwa [if_pos hk] at this
theorem MsgD.Right.txNo (h : d.Right) (hk : d.kd ≠ 0) : d.tx = TxD.zero := by have := h.2.2.1; rwa [if_neg hk] at this
theorem MsgD.Right.bkOk (h : d.Right) (hk : d.kd = 1) : d.bk.Right := by have := h.2.2.2.1; rwa [if_pos hk] at this
theorem MsgD.Right.bkNo (h : d.Right) (hk : d.kd ≠ 1) : d.bk = BlkD.zero := by have := h.2.2.2.1; rwa [if_neg hk] at this
theorem MsgD.Right.ixOk (h : d.Right) (hk : 3 ≤ d.kd) : In 0 1000 d.ix := by have := h.2.2.2.2.1; rwa [if_pos hk] at this
theorem MsgD.Right.ixNo (h : d.Right) (hk : ¬ 3 ≤ d.kd) : d.ix = 0 := by have := h.2.2.2.2.1; rwa [if_neg hk] at this
theorem MsgD.Right.vwOk (h : d.Right) (hk : 3 ≤ d.kd ∧ d.kd ≤ 5) : In 0 1000 d.vw := by have := h.2.2.2.2.2.1; rwa [if_pos hk] at this
theorem MsgD.Right.vwNo (h : d.Right) (hk : ¬ (3 ≤ d.kd ∧ d.kd ≤ 5)) : d.vw = 0 := by have := h.2.2.2.2.2.1; rwa [if_neg hk] at this
theorem MsgD.Right.vlOk (h : d.Right) (hk : 2 ≤ d.kd) : VOk d.kd d.vl := by have := h.2.2.2.2.2.2.1; rwa [if_pos hk] at this
theorem MsgD.Right.vlNo (h : d.Right) (hk : ¬ 2 ≤ d.kd) : d.vl = 0 := by have := h.2.2.2.2.2.2.1; rwa [if_neg hk] at this
theorem MsgD.Right.prOk (h : d.Right) (hk : d.kd = 3) : -1 ≤ d.pr ∧ d.pr < d.vw := by have := h.2.2.2.2.2.2.2; rwa [if_pos hk] at this
theorem MsgD.Right.prNo (h : d.Right) (hk : d.kd ≠ 3) : d.pr = 0 := by have := h.2.2.2.2.2.2.2; rwa [if_neg hk] at this
end
end Go.Proofs.Ytgbhbifdfcfamaa
