/- A list written out, []T{} and append([]T{}, x...) as operations of a region that draws its order. -/
import Derived.Test.YtabbgnlabiakoaaRegP
import Derived.Test.YtabbgnlabiakoaaRowStep
namespace Go.Proofs.Ytabbgnlabiakoaa
open Go.RowKit

/-- An empty slice without capacity. -/
def Sp.empty : Sp := .any (fun v _ => ∃ ad : Addr, v = .slice (some ad) 0 0) fun _ _ _ h _ => h
section
variable {P : Program} {w : World} {t e : TypeId} {z : Value} {bytes : Nat} {xs : List Value} {v : Value}
theorem run_app_empty (E : El P t e z bytes) (ty : TypeId) (ad : Addr) {s : Value} {ys : List Value} (hs : Sl w s ys) (h1 : ∀ u ∈ ys, u.oneCell' = true) (hb : ys.length * bytes ≤ 140737488355328) :
    ∃ v' w', (Builtin.append_ #[t, t] ty #[.slice (some ad) 0 0, s]).run P w = .ok v' w' ∧ Ext w w' ∧ Sl w' v' ys ∧ (ys ≠ [] → ∀ k, v'.ownBlock = some k → w.heap.size ≤ k) := by
  obtain ⟨i, hi, hz, hsz, hby⟩ := E.info
  obtain ⟨A, c, rfl, hc1, hc2, hc⟩ := hs
  have hm : ys.length ≤ maxLen := by
    have := Nat.le_mul_of_pos_right ys.length E.pos
    unfold maxLen; omega
  by_cases h0 : ys.length = 0
  · have hy : ys = [] := List.eq_nil_of_length_eq_zero h0
    subst hy
    refine ⟨.slice (some ad) 0 0, w, ?_, Ext.refl w, ⟨some ad, 0, rfl, by simp, by simp [maxLen], fun k u hk => by simp at hk⟩, fun h => absurd rfl h⟩
    cases A with
    | none => simp [Builtin.append_, run_underlying E.hu, sizeOf, typeInfo, hi, Builtin.lenOf, Builtin.firstCells, storeCells]
    | some b => simp [Builtin.append_, run_underlying E.hu, sizeOf, typeInfo, hi, Builtin.lenOf, Builtin.firstCells, storeCells, loadCells, loadCellsFrom]
  · obtain ⟨b, rfl, hcells⟩ : ∃ b, A = some b ∧ ∀ j u, ys[j]? = some u → w.cell? (b.add j) = some u := by
      obtain ⟨b, hA, _⟩ := hc 0 ys[0] (List.getElem?_eq_getElem (by omega))
      exact ⟨b, hA, fun j u hj => by obtain ⟨b', hA', hh⟩ := hc j u hj; rw [hA] at hA'; cases hA'; exact hh⟩
    have hm2 : ys.length ≤ 9223372036854775807 := by unfold maxLen at hm; omega
    have hr := run_append_grow (P := P) w t ty e i z E.hu hi hz ad 0 0 [] (by simp) (fun j u hj => by simp at hj) b ys.length c ys (by rw [hsz, Nat.mul_one]) hcells (by omega) (by omega) (growslice_fits (by omega) (by rw [hby]; simpa using hb))
    simp only [Nat.zero_add] at hr
    refine ⟨_, _, hr, ((Ext.refl w).drew).alloc _, ?_, fun _ k hk => ?_⟩
    · have hge := grownCap_ge w ys.length 0 e
      have hcm := grownCap_le_maxLen w ys.length 0 e hm
      refine ⟨some ⟨w.heap.size, 0, none⟩, _, rfl, hge, hcm, fun k u hk => ⟨_, rfl, ?_⟩⟩
      rw [add_zero_off]
      have hnew : (w.drew.alloc (.cells (([] : List Value).toArray ++ ys.toArray ++ Builtin.zeroCells z.cells (grownCap w ys.length 0 e - ys.length)) e)).heap[w.heap.size]? = some (.cells (([] : List Value).toArray ++ ys.toArray ++ Builtin.zeroCells z.cells (grownCap w ys.length 0 e - ys.length)) e) := heap_alloc_new w.drew _
      rw [cell_of_row _ w.heap.size k _ e (0, 0) hnew]
      have hkl : k < ys.length := (List.getElem?_eq_some_iff.1 hk).1
      have hk' : ys[k]? = some u := hk
      simp only [Array.getElem?_append, List.size_toArray]
      simp [hkl]
      simpa [hkl] using hk'
    · cases hk; exact Nat.le_refl _
end
section
variable {P : Program} {ops : Array Oper} {a : Act} {w : World} {r : List Sp} {o : Oper} {reads : List (Tmp × Option Nat)} {t e : TypeId} {z : Value} {bytes : Nat}
theorem op_build (E : El P t e z bytes) (us : List Value) (n : Nat) (ps : Array (Nat × Operand)) (hgd : o.guard = none) (ho : o.op = .buildSlice t n ps) (hn : n = us.length) (hs : n ≤ 1000000) (hone : ∀ u ∈ us, u.cells = #[u])
    (h : ∀ (σ : Act) (w' : World), Ext w w' → Given a r σ w' reads → (ps.toList.map fun x => (x.1, σ.eval x.2)) = ((us.zipIdx 0).map fun p => (p.2, p.1))) : opOk P ops a w r o reads (.sl us) := by
  intro σ w' hx hg
  rw [if_pos (wanted_none hgd _)]
  have hps := h σ w' hx hg
  have hr := run_buildSlice (P := P) E us (ps.map fun x => (x.1, σ.eval x.2)) (by rw [Array.toList_map]; exact hps) hone n hn hs w'
  unfold Oper.wp execOp
  simp only [ho]
  rw [show (Instr.buildSlice t n (ps.map fun (i, x) => (i, σ.eval x))) = Instr.buildSlice t n (ps.map fun x => (x.1, σ.eval x.2)) from rfl]
  simp only [Sem.run_bind, hr, Result.andThen_ok]
  subst hn
  exact ⟨_, rfl, (Ext.refl _).alloc _, Sl.of_own (own_new (w := w') (e := e) us hs)⟩
theorem op_empty (E : El P t e z bytes) (hgd : o.guard = none) (ho : o.op = .buildSlice t 0 #[]) : opOk P ops a w r o [] Sp.empty := by
  intro σ w' hx hg
  rw [if_pos (wanted_none hgd _)]
  have hr := run_buildSlice (P := P) E [] #[] rfl (by simp) 0 rfl (by omega) w'
  unfold Oper.wp execOp
  simp only [ho]
  simp only [List.map_toArray, List.map_nil, Sem.run_bind, hr, Result.andThen_ok]
  exact ⟨_, rfl, (Ext.refl _).alloc _, _, rfl⟩
/-- append([]T{}, s...): reads the empty slice at position k, s read as ys. -/
theorem op_clone (E : El P t e z bytes) (x y : Tmp) (k : Nat) (more : List (Tmp × Option Nat)) {ys : List Value} (h1 : ∀ u ∈ ys, u.oneCell' = true) (hb : ys.length * bytes ≤ 140737488355328) (hgd : o.guard = none)
    (ho : o.op = .call { callee := .builtin .append, args := #[.tmp x, .tmp y], argTypes := #[t, t] }) (hk : r.getD k (.val undef) = Sp.empty)
    (h : ∀ (σ : Act) (w' : World), Ext w w' → Given a r σ w' ((x, some k) :: more) → Sl w' (σ.tmps.getD y undef) ys) : opOk P ops a w r o ((x, some k) :: more) (.sl ys) := by
  intro σ w' hx hg
  rw [if_pos (wanted_none hgd _)]
  have hs := h σ w' hx hg
  have he : (Sp.empty).p (σ.tmps.getD x undef) w' := by rw [← hk]; exact hg.1
  obtain ⟨ad, he⟩ := he
  obtain ⟨v', w'', hr, hx', hsl, _⟩ := run_app_empty E o.type ad hs h1 hb
  unfold Oper.wp execOp
  simp only [ho, resolve, invoke, builtin, Sem.run_bind, Sem.run_pure, Result.andThen_ok, List.map_toArray, List.map_cons, List.map_nil, Act.eval, he, hr]
  exact ⟨v', rfl, hx', hsl⟩
end
end Go.Proofs.Ytabbgnlabiakoaa
