/- More single operations of a region that draws its order: arrays behind a pointer, lists of slices written out, the mark. -/
import Derived.Test.YtdnppmpgpkpapaaTag
namespace Go.Proofs.Ytdnppmpgpkpapaa
open Go.RowKit

theorem runs_aidx {P : Program} {o : Oper} {ρ : Operand → Value} {w : World} {t e : TypeId} {n : Nat} {ad : Addr} {i0 : TypeInfo} (hu : P.underlying t = some (.array n e)) (hi0 : P.info? e = some i0) (hs : i0.size = 1) (x y : Operand) (ho : o.op = .indexAddr t x y)
    (hx : ρ x = .pointer (some ad)) (i : Nat) (hy : ρ y = .int .i64 i) (hi : i < n) : Runs P o ρ w (.pointer (some (ad.add i))) := by
  unfold Runs execOp
  simp [ho, hx, hy, Instr.indexAt, run_underlying hu, sizeOf, typeInfo, hi0, hs, go_sem, hi]
theorem runs_load_at {P : Program} {o : Oper} {ρ : Operand → Value} {w : World} {ty : TypeId} {k : IntKind} {z : Int} {ad : Addr} (x : Operand) (ho : o.op = .load ty x) (hu : P.underlying ty = some (.int k)) (hv : ρ x = .pointer (some ad)) (h : w.cell? ad = some (.int k z)) : Runs P o ρ w (.int k z) :=
  runs_load x ho hu hv ⟨ad, rfl, h⟩

/-- A list of slices that read as ls. -/
def Sp.parts (ls : List (List Nat)) : Sp := .any (fun v w => Parts w v ls) fun _ _ _ h he => h.ext he

section
variable {ops : Array Oper} {a : Act} {w : World} {r : List Sp} {o : Oper} {reads : List (Tmp × Option Nat)}
theorem op_parts (n : Nat) (ps : Array (Nat × Operand)) (ls : List (List Nat)) (hgd : o.guard = none) (ho : o.op = .buildSlice 30 n ps) (hn : n = ls.length) (hs : n ≤ 1000000)
    (h : ∀ (σ : Act) (w' : World), Ext w w' → Given a r σ w' reads → ∃ us : List Value, (ps.toList.map fun x => (x.1, σ.eval x.2)) = ((us.zipIdx 0).map fun p => (p.2, p.1)) ∧ us.length = ls.length ∧ ∀ (k : Nat) (u : Value) (l : List Nat), us[k]? = some u → ls[k]? = some l → Byt w' u l) :
    opOk Try.prog ops a w r o reads (Sp.parts ls) := by
  intro σ w' hx hg
  rw [if_pos (wanted_none hgd _)]
  obtain ⟨us, hps, hl, hby⟩ := h σ w' hx hg
  have hone : ∀ u ∈ us, u.cells = #[u] := fun u hu => by
    obtain ⟨i, hi, rfl⟩ := List.getElem_of_mem hu
    exact (hby i _ (ls[i]'(by omega)) (List.getElem?_eq_getElem hi) (List.getElem?_eq_getElem (by omega))).oneCell
  have hr := run_buildSlice (P := Try.prog) Try.elBB us (ps.map fun x => (x.1, σ.eval x.2)) (by rw [Array.toList_map]; exact hps) hone n (by omega) hs w'
  unfold Oper.wp execOp
  simp only [ho]
  rw [show (Instr.buildSlice 30 n (ps.map fun (i, x) => (i, σ.eval x))) = Instr.buildSlice 30 n (ps.map fun x => (x.1, σ.eval x.2)) from rfl]
  simp only [Sem.run_bind, hr, Result.andThen_ok]
  subst hn
  refine ⟨_, rfl, (Ext.refl _).alloc _, us, ?_, hl, fun k u l hu hl => (hby k u l hu hl).ext ((Ext.refl _).alloc _)⟩
  have := Sl.of_own (own_new (w := w') (e := 26) us (by omega))
  rw [hl] at this; exact this
end
theorem OfR (key : BitVec 64) (v : Value) (ls : List (List Nat)) (w : World) (hb : ∀ l ∈ ls, ∀ x ∈ l, x < 256) {L : List Nat} (hL : ls.flatten = L) (h : Parts w v ls) :
    Calls Try.prog 10 #[.int .u64 (key.toNat : Int), v] w fun e w' => ∃ v', e = .returned v' ∧ Ext w w' ∧ Sp.p (.val (.int .u64 ((markB key L).toNat : Int))) v' w' := by
  subst hL
  exact (Of_any key v ls w hb h).mono fun e w' ⟨he, hw⟩ => ⟨_, he, by subst hw; exact Ext.refl _, rfl⟩
end Go.Proofs.Ytdnppmpgpkpapaa
