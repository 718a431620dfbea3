/- A cut whose bounds are integers of whatever kind. -/
import Derived.Test.YtabbgnlabiakoaaRegStep
namespace Go.Proofs.Ytabbgnlabiakoaa
open Go.RowKit

theorem runs_cutk_own {P : Program} {o : Oper} {ρ : Operand → Value} {w : World} {v : Value} {xs : List Value} {t e : TypeId} {z : Value} {bytes : Nat} (E : El P t e z bytes) (x : Operand) (lo hi : Option Operand)
    (ho : o.op = .slice t x lo hi none) (hv : ρ x = v) (h : Sl w v xs) (i j : Nat) (kl kh : IntKind)
    (hlo : (∃ y, lo = some y ∧ ρ y = .int kl i) ∨ lo = none ∧ i = 0) (hhi : (∃ y, hi = some y ∧ ρ y = .int kh j) ∨ hi = none ∧ j = xs.length) (hij : i ≤ j) (hj : j ≤ xs.length) :
    ∃ v', Runs P o ρ w v' ∧ Sl w v' ((xs.take j).drop i) ∧ ∀ k, v'.ownBlock = some k → v.ownBlock = some k := by
  obtain ⟨A, c, rfl, h1, h2, h3⟩ := h
  obtain ⟨i0, hi0, _, hsz, _⟩ := E.info
  have hu := E.hu
  have key : Sl w (.slice (if c = i then A else A.map (·.add (i * 1))) (j - i) (c - i)) ((xs.take j).drop i) := by
    have hl : ((xs.take j).drop i).length = j - i := by simp; omega
    refine ⟨_, c - i, by rw [hl], by rw [hl]; omega, by omega, fun k u hk => ?_⟩
    rw [List.getElem?_drop, List.getElem?_take] at hk
    split at hk
    · obtain ⟨ad, rfl, hc⟩ := h3 _ u hk
      have hlt : i + k < xs.length := (List.getElem?_eq_some_iff.1 hk).1
      refine ⟨ad.add i, by rw [if_neg (by omega)]; simp, by rw [add_add']; exact hc⟩
    · cases hk
  refine ⟨_, ?_, key, fun k hk => ?_⟩
  rotate_left
  · by_cases hci : c = i
    · rw [if_pos hci] at hk; cases A <;> exact hk
    · rw [if_neg hci] at hk
      cases A with
      | none => exact hk
      | some ad =>
        have : (Option.map (fun x : Addr => x.add (i * 1)) (some ad)) = some (ad.add (i * 1)) := rfl
        rw [this] at hk
        have h4 : some (ad.add (i * 1)).block = some k := hk
        rw [blk_add] at h4; exact h4
  unfold Runs execOp
  have b1 : ∀ (kd : IntKind) (y : Nat) (code : BoundsCode) (n : Nat), n ≤ y → (Instr.sliceBound (.int kd (n : Int)) y code).run P w = .ok n w := fun kd y code n hn => by
    simp [Instr.sliceBound, go_sem]; omega
  rcases hlo with ⟨y, rfl, hy⟩ | ⟨rfl, rfl⟩ <;> rcases hhi with ⟨y', rfl, hy'⟩ | ⟨rfl, rfl⟩
  · simp [ho, hv, hy, hy', Instr.sliceAt, Instr.slice, run_underlying hu, Instr.sliceBounds, sizeOf, typeInfo, hi0, hsz, b1 kh c .sliceAcap j (by omega), b1 kl j .sliceB i hij]
  · simp [ho, hv, hy, Instr.sliceAt, Instr.slice, run_underlying hu, Instr.sliceBounds, sizeOf, typeInfo, hi0, hsz, b1 kl xs.length .sliceB i hij]
  · simp [ho, hv, hy', Instr.sliceAt, Instr.slice, run_underlying hu, Instr.sliceBounds, sizeOf, typeInfo, hi0, b1 kh c .sliceAcap j (by omega)]
  · simp [ho, hv, Instr.sliceAt, Instr.slice, run_underlying hu, Instr.sliceBounds, sizeOf, typeInfo, hi0]
theorem runs_cutk {P : Program} {o : Oper} {ρ : Operand → Value} {w : World} {v : Value} {xs : List Value} {t e : TypeId} {z : Value} {bytes : Nat} (E : El P t e z bytes) (x : Operand) (lo hi : Option Operand)
    (ho : o.op = .slice t x lo hi none) (hv : ρ x = v) (h : Sl w v xs) (i j : Nat) (kl kh : IntKind)
    (hlo : (∃ y, lo = some y ∧ ρ y = .int kl i) ∨ lo = none ∧ i = 0) (hhi : (∃ y, hi = some y ∧ ρ y = .int kh j) ∨ hi = none ∧ j = xs.length) (hij : i ≤ j) (hj : j ≤ xs.length) :
    ∃ v', Runs P o ρ w v' ∧ Sl w v' ((xs.take j).drop i) := by
  obtain ⟨v', h1, h2, _⟩ := runs_cutk_own E x lo hi ho hv h i j kl kh hlo hhi hij hj
  exact ⟨v', h1, h2⟩
theorem rcutk {o : Oper} {ρ : Operand → Value} {w : World} {v : Value} {l : List Nat} (kl kh : IntKind) (x : Operand) {lo hi : Option Operand} (ho : o.op = .slice 28 x lo hi none) (hv : ρ x = v) (h : Byt w v l) (i j : Nat)
    (hlo : (∃ y, lo = some y ∧ ρ y = .int kl i) ∨ lo = none ∧ i = 0) (hhi : (∃ y, hi = some y ∧ ρ y = .int kh j) ∨ hi = none ∧ j = l.length) (hij : i ≤ j) (hj : j ≤ l.length) {L : List Nat} (hL : (l.take j).drop i = L) :
    ∃ v', Runs Try.prog o ρ w v' ∧ Sp.p (.sl (u8s L)) v' w := by
  subst hL
  obtain ⟨v', h1, h2⟩ := runs_cutk Try.elB x lo hi ho hv h i j kl kh hlo (hhi.imp id fun e => ⟨e.1, by rw [u8s_length]; exact e.2⟩) hij (by rw [u8s_length]; exact hj)
  refine ⟨v', h1, ?_⟩
  show Sl w v' _
  rw [← u8s_drop, ← u8s_take]; exact h2
theorem rcutkN {o : Oper} {ρ : Operand → Value} {w : World} {v : Value} {l : List Nat} {lw : Nat} (kl kh : IntKind) (x : Operand) {lo hi : Option Operand} (ho : o.op = .slice 28 x lo hi none) (hv : ρ x = v) (h : Nb lw w v l) (i j : Nat)
    (hlo : (∃ y, lo = some y ∧ ρ y = .int kl i) ∨ lo = none ∧ i = 0) (hhi : (∃ y, hi = some y ∧ ρ y = .int kh j) ∨ hi = none ∧ j = l.length) (hij : i ≤ j) (hj : j ≤ l.length) {L : List Nat} (hL : (l.take j).drop i = L) :
    ∃ v', Runs Try.prog o ρ w v' ∧ Sp.p (.nb lw L) v' w := by
  subst hL
  obtain ⟨v', h1, h2, h3⟩ := runs_cutk_own Try.elB x lo hi ho hv h.1 i j kl kh hlo (hhi.imp id fun e => ⟨e.1, by rw [u8s_length]; exact e.2⟩) hij (by rw [u8s_length]; exact hj)
  refine ⟨v', h1, ?_, fun k hk => h.2 k (h3 k hk)⟩
  show Sl w v' _
  rw [← u8s_drop, ← u8s_take]; exact h2
end Go.Proofs.Ytabbgnlabiakoaa
