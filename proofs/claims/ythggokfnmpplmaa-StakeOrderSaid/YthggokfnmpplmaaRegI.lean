/- A list of numbers written out in a region that draws its order. -/
import Derived.Test.YthggokfnmpplmaaIntB
import Derived.Test.YthggokfnmpplmaaRegT
namespace Go.Proofs.Ythggokfnmpplmaa
open Go.RowKit
section
variable {P : Program} {ops : Array Oper} {a : Act} {w : World} {r : List Sp} {o : Oper} {reads : List (Tmp × Option Nat)} {t e : TypeId} {z : Value} {bytes : Nat}
theorem op_build (E : El P t e z bytes) (us : List Value) (n : Nat) (ps : Array (Nat × Operand)) (hgd : o.guard = none) (ho : o.op = .buildSlice t n ps) (hn : n = us.length) (hs : n ≤ 1000000) (hone : ∀ u ∈ us, u.cells = #[u])
    (h : ∀ (σ : Act) (w' : World), Ext w w' → Given a r σ w' reads → (ps.toList.map fun x => (x.1, σ.eval x.2)) = ((us.zipIdx 0).map fun p => (p.2, p.1))) : opOk P ops a w r o reads (.sl us) := by
  intro σ w' hx hg
  rw [if_pos (wanted_none hgd _)]
  have hps := h σ w' hx hg
  have hr := run_buildSlice (P := P) E us (ps.map fun x => (x.1, σ.eval x.2)) (by rw [Array.toList_map]; exact hps) hone n hn hs w'
  unfold Oper.wp execOp
  simp only [ho]
  rw [show (Instr.buildSlice t n (ps.map fun (i, x) => (i, σ.eval x))) = Instr.buildSlice t n (ps.map fun x => (x.1, σ.eval x.2)) from rfl]
  simp only [Sem.run_bind, hr, Result.andThen_ok]
  subst hn
  exact ⟨_, rfl, (Ext.refl _).alloc _, Sl.of_own (own_new (w := w') (e := e) us hs)⟩
end
end Go.Proofs.Ythggokfnmpplmaa
