/- Single operations of a region that draws its order, by kind. -/
import Derived.Test.YtdnppmpgpkpapaaStep
namespace Go.Proofs.Ytdnppmpgpkpapaa
open Go.RowKit

section
variable {P : Program} {ops : Array Oper} {a : Act} {w : World} {r : List Sp} {o : Oper} {s : Sp} {reads : List (Tmp × Option Nat)}

theorem wanted_none (hgd : o.guard = none) (f : Nat → Option Bool) : Region.wanted o f = true := by simp [Region.wanted, hgd]

theorem op_runs (hgd : o.guard = none) (h : ∀ (σ : Act) (w' : World), Ext w w' → Given a r σ w' reads → ∃ v, Runs P o σ.eval w' v ∧ s.p v w') : opOk P ops a w r o reads s := by
  intro σ w' hx hg
  rw [if_pos (wanted_none hgd _)]
  obtain ⟨v, hr, hs⟩ := h σ w' hx hg
  unfold Oper.wp
  rw [show (execOp σ.eval o).run P w' = .ok (.value v) w' from hr]
  exact ⟨v, rfl, Ext.refl _, hs⟩

theorem op_copy (t : Tmp) (k : Nat) (s : Sp) (hgd : o.guard = none) (ho : o.op = .move (.tmp t) ∨ o.op = .assign (.tmp t)) (hs : r.getD k (.val undef) = s) : opOk P ops a w r o [(t, some k)] s := by
  refine op_runs hgd fun σ w' hx hg => ⟨σ.tmps.getD t undef, ?_, by subst hs; exact hg.1⟩
  unfold Runs execOp
  rcases ho with ho | ho <;> simp [ho, Act.eval]

theorem op_out (t : Tmp) (v : Value) (hgd : o.guard = none) (ho : o.op = .move (.tmp t) ∨ o.op = .assign (.tmp t)) (hv : a.tmps.getD t undef = v) : opOk P ops a w r o [(t, none)] (.val v) := by
  refine op_runs hgd fun σ w' hx hg => ⟨σ.tmps.getD t undef, ?_, by subst hv; exact hg.1⟩
  unfold Runs execOp
  rcases ho with ho | ho <;> simp [ho, Act.eval]

theorem op_const (c : Value) (hgd : o.guard = none) (ho : o.op = .move (.const c) ∨ o.op = .assign (.const c)) : opOk P ops a w r o [] (.val c) := by
  refine op_runs hgd fun σ w' hx hg => ⟨c, ?_, rfl⟩
  unfold Runs execOp
  rcases ho with ho | ho <;> simp [ho, Act.eval]

theorem given_left : ∀ (x y : List (Tmp × Option Nat)) {σ : Act} {w : World}, Given a r σ w (x ++ y) → Given a r σ w x
  | [], _, _, _, _ => trivial
  | (_, none) :: x, y, _, _, h => ⟨h.1, given_left x y h.2⟩
  | (_, some _) :: x, y, _, _, h => ⟨h.1, given_left x y h.2⟩
theorem given_right : ∀ (x y : List (Tmp × Option Nat)) {σ : Act} {w : World}, Given a r σ w (x ++ y) → Given a r σ w y
  | [], _, _, _, h => h
  | (_, none) :: x, y, _, _, h => given_right x y h.2
  | (_, some _) :: x, y, _, _, h => given_right x y h.2

theorem bool_ne_undef (b : Bool) : (Value.bool b) ≠ undef := by simp [undef]

theorem yielded_of {g : Nat} {t : Tmp} {b : Bool} {tmps : Array Value} (hd : (ops[g]?).bind (·.dst) = some t) (hv : tmps.getD t undef = .bool b) : yielded ops tmps g = some b := by
  unfold yielded
  rw [hd]
  simp only [Option.bind_some]
  cases hx : tmps[t]? with
  | none => rw [Array.getD_eq_getD_getElem?, hx] at hv; exact absurd hv.symm (bool_ne_undef b)
  | some u => rw [Array.getD_eq_getD_getElem?, hx] at hv; simp only [Option.getD_some] at hv; subst hv; rfl

/-- An operation whose guard says yes. -/
theorem op_yes (g t k : Nat) (b : Bool) (hgd : o.guard = some (g, b)) (hd : (ops[g]?).bind (·.dst) = some t) (hb : r.getD k (.val undef) = .val (.bool b))
    (h : opOk P ops a w r { o with guard := none } reads s) : opOk P ops a w r o (reads ++ [(t, some k)]) s := by
  intro σ w' hx hg
  have h1 := h σ w' hx (given_left _ _ hg)
  have h2 := (given_right _ _ hg).1
  rw [hb] at h2
  have hy := yielded_of (ops := ops) hd h2
  rw [if_pos (wanted_none rfl _)] at h1
  rw [if_pos (by simp [Region.wanted, hgd, hy])]
  exact h1

/-- An operation whose guard says no. -/
theorem op_no (g t k : Nat) (b : Bool) (hgd : o.guard = some (g, b)) (hd : (ops[g]?).bind (·.dst) = some t) (hb : r.getD k (.val undef) = .val (.bool (!b))) : opOk P ops a w r o (reads ++ [(t, some k)]) (.val undef) := by
  intro σ w' hx hg
  have h2 := (given_right _ _ hg).1
  rw [hb] at h2
  have hy := yielded_of (ops := ops) hd h2
  rw [if_neg (by simp [Region.wanted, hgd, hy])]
  rfl
/-- A guard that itself was not reached. -/
theorem op_no' (g t k : Nat) (b : Bool) (hgd : o.guard = some (g, b)) (hd : (ops[g]?).bind (·.dst) = some t) (hb : r.getD k (.val undef) = .val undef) : opOk P ops a w r o (reads ++ [(t, some k)]) (.val undef) := by
  intro σ w' hx hg
  have h2 := (given_right _ _ hg).1
  rw [hb] at h2
  have hy : ∀ c, yielded ops σ.tmps g ≠ some c := fun c hc => by
    unfold yielded at hc
    rw [hd] at hc
    simp only [Option.bind_some] at hc
    cases hx : σ.tmps[t]? with
    | none => rw [hx] at hc; cases hc
    | some u =>
      have h3 : σ.tmps.getD t undef = u := by rw [Array.getD_eq_getD_getElem?, hx]; rfl
      have h4 : u = undef := by rw [← h3]; exact h2
      rw [hx, h4] at hc; simp [undef] at hc
  rw [if_neg (by
    simp only [Region.wanted, hgd]
    cases hc : yielded ops σ.tmps g with
    | none => simp
    | some c => exact absurd hc (hy c))]
  rfl

theorem op_calls (f : FuncId) (xs : Array Operand) (tys : Array TypeId) (args : Act → Array Value) (hgd : o.guard = none) (ho : o.op = .call { callee := .value (.func f), args := xs, argTypes := tys })
    (hc : ∀ (ys : Array Value) (w : World), (callFunc f ys).run P w = .ok (.enter f ys) w)
    (h : ∀ (σ : Act) (w' : World), Ext w w' → Given a r σ w' reads → xs.map σ.eval = args σ ∧ Calls P f (args σ) w' fun e w'' => ∃ v, e = .returned v ∧ Ext w' w'' ∧ s.p v w'') : opOk P ops a w r o reads s := by
  intro σ w' hx hg
  rw [if_pos (wanted_none hgd _)]
  obtain ⟨ha, h⟩ := h σ w' hx hg
  unfold Oper.wp
  have hr : (execOp σ.eval o).run P w' = .ok (.enter f (args σ)) w' := by
    obtain ⟨dst, op, type, pos, after, guard⟩ := o
    simp only at ho
    subst ho
    have he : execOp σ.eval { dst, op := .call { callee := .value (.func f), args := xs, argTypes := tys }, type, pos, after, guard } = callFunc f (#[] ++ xs.map σ.eval ++ #[]) := rfl
    rw [he, Array.empty_append, Array.append_empty, ha]; exact hc _ _
  rw [hr]
  refine Calls.mono h fun e w'' he => ?_
  obtain ⟨v, rfl, hx', hs⟩ := he
  exact ⟨v, rfl, hx', hs⟩
end

theorem rcut {o : Oper} {ρ : Operand → Value} {w : World} {v : Value} {l : List Nat} (x : Operand) {lo hi : Option Operand} (ho : o.op = .slice 26 x lo hi none) (hv : ρ x = v) (h : Byt w v l) (i j : Nat)
    (hlo : (∃ y, lo = some y ∧ ρ y = .int .i64 i) ∨ lo = none ∧ i = 0) (hhi : (∃ y, hi = some y ∧ ρ y = .int .i64 j) ∨ hi = none ∧ j = l.length) (hij : i ≤ j) (hj : j ≤ l.length) {L : List Nat} (hL : (l.take j).drop i = L) :
    ∃ v', Runs Try.prog o ρ w v' ∧ Sp.p (.sl (u8s L)) v' w := by
  subst hL
  obtain ⟨v', h1, h2⟩ := runs_cut Try.elB x lo hi ho hv h i j hlo (hhi.imp id fun e => ⟨e.1, by rw [u8s_length]; exact e.2⟩) hij (by rw [u8s_length]; exact hj)
  refine ⟨v', h1, ?_⟩
  show Sl w v' _
  rw [← u8s_drop, ← u8s_take]; exact h2
theorem runs_lenb {o : Oper} {ρ : Operand → Value} {w : World} {v : Value} {l : List Nat} (x : Operand) (ho : o.op = .call { callee := .builtin .len, args := #[x], argTypes := #[26] }) (hv : ρ x = v) (h : Byt w v l) :
    Runs Try.prog o ρ w (.int .i64 l.length) := by
  have := runs_len Try.elB x ho hv h; rwa [u8s_length] at this
theorem runs_pick_t {P : Program} {o : Oper} {ρ : Operand → Value} {w : World} {v : Value} (c x y : Operand) (ho : o.op = .pick c x y) (hc : ρ c = .bool true) (hv : ρ x = v) : Runs P o ρ w v := by
  subst hv
  unfold Runs execOp
  simp [ho, hc, asBool]
theorem runs_pick_f {P : Program} {o : Oper} {ρ : Operand → Value} {w : World} {v : Value} (c x y : Operand) (ho : o.op = .pick c x y) (hc : ρ c = .bool false) (hv : ρ y = v) : Runs P o ρ w v := by
  subst hv
  unfold Runs execOp
  simp [ho, hc, asBool]
/-- In a region without a draw: an operation whose guard says yes. -/
theorem w_yes {P : Program} {ops : Array Oper} {rest : List Oper} {o : Oper} {a : Act} {Q : Exit → Act → World → Prop} {w : World} (g t : Nat) (b : Bool) (hgd : o.guard = some (g, b)) (hd : (ops[g]?).bind (·.dst) = some t)
    (hv : a.tmps.getD t undef = .bool b) (h : wpList P ops Q (⟨o.dst, o.op, o.type, o.pos, o.after, none⟩ :: rest) a w) : wpList P ops Q (o :: rest) a w := by
  have hy := yielded_of (ops := ops) hd hv
  unfold wpList at h ⊢
  rw [if_pos (by simp [Region.wanted])] at h
  rw [if_pos (by simp [Region.wanted, hgd, hy])]
  exact h

/-- A new slice of the bytes l. -/
theorem byt_lit {w : World} (l : List Nat) (hl : l.length ≤ 1000000) {cs : Array Value} {fz : Nat × Nat} (hc : cs = (u8s l).toArray) : Byt (w.alloc (.cells cs 5 fz)) (.slice (some ⟨w.heap.size, 0, none⟩) l.length l.length) l := by
  subst hc
  refine ⟨some ⟨w.heap.size, 0, none⟩, l.length, by rw [u8s_length], by rw [u8s_length]; exact Nat.le_refl _, by simp only [maxLen]; omega, fun k u hk => ⟨_, rfl, ?_⟩⟩
  have hadd : (⟨w.heap.size, 0, none⟩ : Addr).add k = ⟨w.heap.size, k, none⟩ := by unfold Addr.add; split <;> simp_all
  rw [hadd, cell_of_row _ w.heap.size k _ 5 fz (heap_alloc_new w _)]
  simpa using hk


/-- A pointer to a cell that holds u. -/
def Sp.ptr (u : Value) : Sp := .any (fun v w => ∃ ad : Addr, v = .pointer (some ad) ∧ w.cell? ad = some u) fun _ _ _ ⟨ad, h1, h2⟩ he => ⟨ad, h1, he.cell h2⟩
theorem rptr {o : Oper} {ρ : Operand → Value} {w : World} {v : Value} {l : List Nat} (x y : Operand) (ho : o.op = .indexAddr 26 x y) (hv : ρ x = v) (h : Byt w v l) (i : Nat) (hy : ρ y = .int .i64 i) (hi : i < l.length) {u : Nat} (hu : l[i] = u) :
    ∃ v', Runs Try.prog o ρ w v' ∧ (Sp.ptr (.int .u8 (u : Nat))).p v' w := by
  subst hu
  obtain ⟨ad, h1, h2⟩ := runs_idx Try.elB x y ho hv h i hy (by rw [u8s_length]; exact hi)
  exact ⟨_, h1, ad, rfl, by rw [h2, u8s_get]⟩
theorem runs_load {P : Program} {o : Oper} {ρ : Operand → Value} {w : World} {v : Value} {ty : TypeId} {k : IntKind} {z : Int} (x : Operand) (ho : o.op = .load ty x) (hu : P.underlying ty = some (.int k)) (hv : ρ x = v) (h : (Sp.ptr (.int k z)).p v w) : Runs P o ρ w (.int k z) := by
  obtain ⟨ad, rfl, hc⟩ := h
  unfold Runs execOp
  have hagg : ∀ w : World, (isAgg ty).run P w = .ok false w := fun w => by simp [isAgg, run_underlying hu]
  simp [ho, hv, go_sem, hagg, hc]
end Go.Proofs.Ytdnppmpgpkpapaa
