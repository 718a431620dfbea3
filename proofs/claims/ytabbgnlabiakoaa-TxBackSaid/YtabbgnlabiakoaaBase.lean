/- Steps of a walk and of a region at slices whose address is not looked at, for elements of one cell: len, a cut, an index, the comparison with nil, a list written out, a store into what the call owns; single operations of a region, by kind. -/
import Derived.Test.YtabbgnlabiakoaaReg
import Derived.Test.YtabbgnlabiakoaaProg
import Derived.LoopTactic
import Derived.WalkKit
import Derived.WalkSpells
import Derived.Outline
import Derived.Laws.BitsAllLaws
import Derived.Laws.BytesArg
namespace Go.Proofs.Ytabbgnlabiakoaa
open Go.RowKit

def Runs (P : Program) (o : Oper) (ρ : Operand → Value) (w : World) (v : Value) : Prop := (execOp ρ o).run P w = .ok (.value v) w

theorem wpList_runs {P : Program} {ops : Array Oper} {rest : List Oper} {o : Oper} {a : Act} {Q : Exit → Act → World → Prop} {w : World} {v : Value} (hgd : o.guard = none) (h : Runs P o a.eval w v)
    (hr : wpList P ops Q rest (a.put o.dst v) w) : wpList P ops Q (o :: rest) a w :=
  wpList_plain hgd fun K hK => by unfold Oper.wp; rw [h]; exact hK _ _ hr

/-- A slice type whose elements take one cell. -/
structure El (P : Program) (t e : TypeId) (z : Value) (bytes : Nat) : Prop where
  hu : P.underlying t = some (.slice e)
  info : ∃ i : TypeInfo, P.info? e = some i ∧ i.zero = some z ∧ i.size = 1 ∧ i.bytes = bytes
  one : z.cells.size = 1
  pos : 0 < bytes

section
variable {P : Program} {o : Oper} {ρ : Operand → Value} {w : World} {v : Value} {xs : List Value} {t e : TypeId} {z : Value} {bytes : Nat}

theorem runs_len (E : El P t e z bytes) (x : Operand) (ho : o.op = .call { callee := .builtin .len, args := #[x], argTypes := #[t] }) (hv : ρ x = v) (h : Sl w v xs) :
    Runs P o ρ w (.int .i64 xs.length) := by
  obtain ⟨A, c, rfl, _⟩ := h
  have hu := E.hu
  unfold Runs execOp
  simp [ho, resolve, invoke, builtin, hv, run_len_slice, go_sem, hu]

/-- v[lo:hi] -/
theorem runs_cut_own (E : El P t e z bytes) (x : Operand) (lo hi : Option Operand) (ho : o.op = .slice t x lo hi none) (hv : ρ x = v) (h : Sl w v xs) (i j : Nat)
    (hlo : (∃ y, lo = some y ∧ ρ y = .int .i64 i) ∨ lo = none ∧ i = 0) (hhi : (∃ y, hi = some y ∧ ρ y = .int .i64 j) ∨ hi = none ∧ j = xs.length) (hij : i ≤ j) (hj : j ≤ xs.length) :
    ∃ v', Runs P o ρ w v' ∧ Sl w v' ((xs.take j).drop i) ∧ ∀ k, v'.ownBlock = some k → v.ownBlock = some k := by
  obtain ⟨A, c, rfl, h1, h2, h3⟩ := h
  obtain ⟨i0, hi0, _, hsz, _⟩ := E.info
  have hu := E.hu
  have key : Sl w (.slice (if c = i then A else A.map (·.add (i * 1))) (j - i) (c - i)) ((xs.take j).drop i) := by
    have hl : ((xs.take j).drop i).length = j - i := by simp; omega
    refine ⟨_, c - i, by rw [hl], by rw [hl]; omega, by omega, fun k u hk => ?_⟩
    rw [List.getElem?_drop, List.getElem?_take] at hk
    split at hk
    · obtain ⟨ad, rfl, hc⟩ := h3 _ u hk
      have hlt : i + k < xs.length := (List.getElem?_eq_some_iff.1 hk).1
      refine ⟨ad.add i, by rw [if_neg (by omega)]; simp, by rw [add_add']; exact hc⟩
    · cases hk
  refine ⟨_, ?_, key, fun k hk => ?_⟩
  rotate_left
  · by_cases hci : c = i
    · rw [if_pos hci] at hk; cases A <;> exact hk
    · rw [if_neg hci] at hk
      cases A with
      | none => exact hk
      | some ad =>
        have : (Option.map (fun x : Addr => x.add (i * 1)) (some ad)) = some (ad.add (i * 1)) := rfl
        rw [this] at hk
        have h4 : some (ad.add (i * 1)).block = some k := hk
        rw [blk_add] at h4; exact h4
  unfold Runs execOp
  have b1 : ∀ (y : Nat) (code : BoundsCode) (n : Nat), n ≤ y → (Instr.sliceBound (.int .i64 (n : Int)) y code).run P w = .ok n w := fun y code n hn => by
    simp [Instr.sliceBound, go_sem]; omega
  rcases hlo with ⟨y, rfl, hy⟩ | ⟨rfl, rfl⟩ <;> rcases hhi with ⟨y', rfl, hy'⟩ | ⟨rfl, rfl⟩
  · simp [ho, hv, hy, hy', Instr.sliceAt, Instr.slice, run_underlying hu, Instr.sliceBounds, sizeOf, typeInfo, hi0, hsz, b1 c .sliceAcap j (by omega), b1 j .sliceB i hij]
  · simp [ho, hv, hy, Instr.sliceAt, Instr.slice, run_underlying hu, Instr.sliceBounds, sizeOf, typeInfo, hi0, hsz, b1 xs.length .sliceB i hij]
  · simp [ho, hv, hy', Instr.sliceAt, Instr.slice, run_underlying hu, Instr.sliceBounds, sizeOf, typeInfo, hi0, b1 c .sliceAcap j (by omega)]
  · simp [ho, hv, Instr.sliceAt, Instr.slice, run_underlying hu, Instr.sliceBounds, sizeOf, typeInfo, hi0]

theorem runs_cut (E : El P t e z bytes) (x : Operand) (lo hi : Option Operand) (ho : o.op = .slice t x lo hi none) (hv : ρ x = v) (h : Sl w v xs) (i j : Nat)
    (hlo : (∃ y, lo = some y ∧ ρ y = .int .i64 i) ∨ lo = none ∧ i = 0) (hhi : (∃ y, hi = some y ∧ ρ y = .int .i64 j) ∨ hi = none ∧ j = xs.length) (hij : i ≤ j) (hj : j ≤ xs.length) :
    ∃ v', Runs P o ρ w v' ∧ Sl w v' ((xs.take j).drop i) := by
  obtain ⟨v', h1, h2, _⟩ := runs_cut_own E x lo hi ho hv h i j hlo hhi hij hj
  exact ⟨v', h1, h2⟩
/-- &v[i] -/
theorem runs_idx (E : El P t e z bytes) (x y : Operand) (ho : o.op = .indexAddr t x y) (hv : ρ x = v) (h : Sl w v xs) (i : Nat) (hy : ρ y = .int .i64 i) (hi : i < xs.length) :
    ∃ ad, Runs P o ρ w (.pointer (some ad)) ∧ w.cell? ad = some xs[i] := by
  obtain ⟨A, c, rfl, h1, h2, h3⟩ := h
  obtain ⟨i0, hi0, _, hsz, _⟩ := E.info
  have hu := E.hu
  obtain ⟨ad, rfl, hc⟩ := h3 i _ (List.getElem?_eq_getElem hi)
  refine ⟨_, ?_, hc⟩
  unfold Runs execOp
  simp [ho, hv, hy, Instr.indexAt, run_underlying hu, sizeOf, typeInfo, hi0, hsz, go_sem, hi]

/-- v == nil -/
theorem runs_isnil (E : El P t e z bytes) (x : Operand) (n c : Nat) (ho : o.op = .binOp .eql t x (.const (.slice none n c)) t) (hc : ρ (.const (.slice none n c)) = .slice none n c) (hv : ρ x = v) (h : Sl w v xs) :
    ∃ b, Runs P o ρ w (.bool b) ∧ (b = true → xs = [] ∧ ∃ n' c', v = .slice none n' c') := by
  obtain ⟨A, c, rfl, h1, h2, h3⟩ := h
  refine ⟨A.isNone, ?_, fun hb => ?_⟩
  · unfold Runs execOp
    simp [ho, hv, hc, eqGuard, Lib.run_eql_slice_nil _ _ _ _ _ _ _ _ E.hu]
  · have : A = none := by simpa using hb
    subst this
    refine ⟨?_, _, _, rfl⟩
    cases xs with
    | nil => rfl
    | cons u r => obtain ⟨ad, e, _⟩ := h3 0 u rfl; cases e
end

/-! ### The same as steps of a walk -/
section
variable {P : Program} {ops : Array Oper} {rest : List Oper} {o : Oper} {a : Act} {Q : Exit → Act → World → Prop} {w : World} {v : Value} {xs : List Value} {t e : TypeId} {z : Value} {bytes : Nat}
theorem w_len (E : El P t e z bytes) (x : Operand) (hgd : o.guard = none) (ho : o.op = .call { callee := .builtin .len, args := #[x], argTypes := #[t] }) (hv : a.eval x = v) (h : Sl w v xs)
    (k : wpList P ops Q rest (a.put o.dst (.int .i64 xs.length)) w) : wpList P ops Q (o :: rest) a w :=
  wpList_runs hgd (runs_len E x ho hv h) k
theorem w_isnil (E : El P t e z bytes) (x : Operand) (n c : Nat) (hgd : o.guard = none) (ho : o.op = .binOp .eql t x (.const (.slice none n c)) t) (hv : a.eval x = v) (h : Sl w v xs)
    (k : ∀ b, (b = true → xs = [] ∧ ∃ n' c', v = .slice none n' c') → wpList P ops Q rest (a.put o.dst (.bool b)) w) : wpList P ops Q (o :: rest) a w := by
  obtain ⟨b, hr, hb⟩ := runs_isnil E x n c ho rfl hv h
  exact wpList_runs hgd hr (k b hb)
theorem w_cut (E : El P t e z bytes) (x y y' : Operand) (i j : Nat) (hgd : o.guard = none) (ho : o.op = .slice t x (some y) (some y') none) (hv : a.eval x = v) (h : Sl w v xs) (hy : a.eval y = .int .i64 i) (hy' : a.eval y' = .int .i64 j) (hij : i ≤ j) (hj : j ≤ xs.length)
    (k : ∀ v', Sl w v' ((xs.take j).drop i) → wpList P ops Q rest (a.put o.dst v') w) : wpList P ops Q (o :: rest) a w := by
  obtain ⟨v', hr, hb⟩ := runs_cut E x _ _ ho hv h i j (.inl ⟨y, rfl, hy⟩) (.inl ⟨y', rfl, hy'⟩) hij hj
  exact wpList_runs hgd hr (k v' hb)
theorem w_from (E : El P t e z bytes) (x y : Operand) (i : Nat) (hgd : o.guard = none) (ho : o.op = .slice t x (some y) none none) (hv : a.eval x = v) (h : Sl w v xs) (hy : a.eval y = .int .i64 i) (hj : i ≤ xs.length)
    (k : ∀ v', Sl w v' (xs.drop i) → wpList P ops Q rest (a.put o.dst v') w) : wpList P ops Q (o :: rest) a w := by
  obtain ⟨v', hr, hb⟩ := runs_cut E x _ _ ho hv h i xs.length (.inl ⟨y, rfl, hy⟩) (.inr ⟨rfl, rfl⟩) hj (Nat.le_refl _)
  exact wpList_runs hgd hr (k v' (by simpa using hb))
theorem w_to (E : El P t e z bytes) (x y' : Operand) (j : Nat) (hgd : o.guard = none) (ho : o.op = .slice t x none (some y') none) (hv : a.eval x = v) (h : Sl w v xs) (hy' : a.eval y' = .int .i64 j) (hj : j ≤ xs.length)
    (k : ∀ v', Sl w v' (xs.take j) → wpList P ops Q rest (a.put o.dst v') w) : wpList P ops Q (o :: rest) a w := by
  obtain ⟨v', hr, hb⟩ := runs_cut E x _ _ ho hv h 0 j (.inr ⟨rfl, rfl⟩) (.inl ⟨y', rfl, hy'⟩) (Nat.zero_le _) hj
  exact wpList_runs hgd hr (k v' (by simpa using hb))
theorem w_idx (E : El P t e z bytes) (x y : Operand) (i : Nat) (hgd : o.guard = none) (ho : o.op = .indexAddr t x y) (hv : a.eval x = v) (h : Sl w v xs) (hy : a.eval y = .int .i64 i) (hi : i < xs.length)
    (k : ∀ ad : Addr, w.cell? ad = some xs[i] → wpList P ops Q rest (a.put o.dst (.pointer (some ad))) w) : wpList P ops Q (o :: rest) a w := by
  obtain ⟨ad, hr, hc⟩ := runs_idx E x y ho hv h i hy hi
  exact wpList_runs hgd hr (k ad hc)
end
/-- What a contract promises, kept from the walk. -/
def Keep (R : Ending → World → Prop) : Ending → World → Prop := R
theorem Keep.intro {R : Ending → World → Prop} {e : Ending} {w : World} (h : R e w) : Keep R e w := h
theorem calls_keep {P : Program} {f : FuncId} {args : Array Value} {w : World} {R : Ending → World → Prop} (h : Calls P f args w (Keep R)) : Calls P f args w R := h
theorem hide_ {p : Prop} (h : p) : Hid p := h
section
variable {P : Program} {ops : Array Oper} {a : Act} {w : World} {r : List Sp} {o : Oper} {s : Sp} {reads : List (Tmp × Option Nat)}

theorem wanted_none (hgd : o.guard = none) (f : Nat → Option Bool) : Region.wanted o f = true := by simp [Region.wanted, hgd]

theorem op_runs (hgd : o.guard = none) (h : ∀ (σ : Act) (w' : World), Ext w w' → Given a r σ w' reads → ∃ v, Runs P o σ.eval w' v ∧ s.p v w') : opOk P ops a w r o reads s := by
  intro σ w' hx hg
  rw [if_pos (wanted_none hgd _)]
  obtain ⟨v, hr, hs⟩ := h σ w' hx hg
  unfold Oper.wp
  rw [show (execOp σ.eval o).run P w' = .ok (.value v) w' from hr]
  exact ⟨v, rfl, Ext.refl _, hs⟩

theorem op_copy (t : Tmp) (k : Nat) (s : Sp) (hgd : o.guard = none) (ho : o.op = .move (.tmp t) ∨ o.op = .assign (.tmp t)) (hs : r.getD k (.val undef) = s) : opOk P ops a w r o [(t, some k)] s := by
  refine op_runs hgd fun σ w' hx hg => ⟨σ.tmps.getD t undef, ?_, by subst hs; exact hg.1⟩
  unfold Runs execOp
  rcases ho with ho | ho <;> simp [ho, Act.eval]

theorem op_out (t : Tmp) (v : Value) (hgd : o.guard = none) (ho : o.op = .move (.tmp t) ∨ o.op = .assign (.tmp t)) (hv : a.tmps.getD t undef = v) : opOk P ops a w r o [(t, none)] (.val v) := by
  refine op_runs hgd fun σ w' hx hg => ⟨σ.tmps.getD t undef, ?_, by subst hv; exact hg.1⟩
  unfold Runs execOp
  rcases ho with ho | ho <;> simp [ho, Act.eval]

theorem op_const (c : Value) (hgd : o.guard = none) (ho : o.op = .move (.const c) ∨ o.op = .assign (.const c)) : opOk P ops a w r o [] (.val c) := by
  refine op_runs hgd fun σ w' hx hg => ⟨c, ?_, rfl⟩
  unfold Runs execOp
  rcases ho with ho | ho <;> simp [ho, Act.eval]

theorem given_left : ∀ (x y : List (Tmp × Option Nat)) {σ : Act} {w : World}, Given a r σ w (x ++ y) → Given a r σ w x
  | [], _, _, _, _ => trivial
  | (_, none) :: x, y, _, _, h => ⟨h.1, given_left x y h.2⟩
  | (_, some _) :: x, y, _, _, h => ⟨h.1, given_left x y h.2⟩
theorem given_right : ∀ (x y : List (Tmp × Option Nat)) {σ : Act} {w : World}, Given a r σ w (x ++ y) → Given a r σ w y
  | [], _, _, _, h => h
  | (_, none) :: x, y, _, _, h => given_right x y h.2
  | (_, some _) :: x, y, _, _, h => given_right x y h.2

theorem bool_ne_undef (b : Bool) : (Value.bool b) ≠ undef := by simp [undef]

theorem yielded_of {g : Nat} {t : Tmp} {b : Bool} {tmps : Array Value} (hd : (ops[g]?).bind (·.dst) = some t) (hv : tmps.getD t undef = .bool b) : yielded ops tmps g = some b := by
  unfold yielded
  rw [hd]
  simp only [Option.bind_some]
  cases hx : tmps[t]? with
  | none => rw [Array.getD_eq_getD_getElem?, hx] at hv; exact absurd hv.symm (bool_ne_undef b)
  | some u => rw [Array.getD_eq_getD_getElem?, hx] at hv; simp only [Option.getD_some] at hv; subst hv; rfl

/-- An operation whose guard says yes. -/
theorem op_yes (g t k : Nat) (b : Bool) (hgd : o.guard = some (g, b)) (hd : (ops[g]?).bind (·.dst) = some t) (hb : r.getD k (.val undef) = .val (.bool b))
    (h : opOk P ops a w r { o with guard := none } reads s) : opOk P ops a w r o (reads ++ [(t, some k)]) s := by
  intro σ w' hx hg
  have h1 := h σ w' hx (given_left _ _ hg)
  have h2 := (given_right _ _ hg).1
  rw [hb] at h2
  have hy := yielded_of (ops := ops) hd h2
  rw [if_pos (wanted_none rfl _)] at h1
  rw [if_pos (by simp [Region.wanted, hgd, hy])]
  exact h1

/-- An operation whose guard says no. -/
theorem op_no (g t k : Nat) (b : Bool) (hgd : o.guard = some (g, b)) (hd : (ops[g]?).bind (·.dst) = some t) (hb : r.getD k (.val undef) = .val (.bool (!b))) : opOk P ops a w r o (reads ++ [(t, some k)]) (.val undef) := by
  intro σ w' hx hg
  have h2 := (given_right _ _ hg).1
  rw [hb] at h2
  have hy := yielded_of (ops := ops) hd h2
  rw [if_neg (by simp [Region.wanted, hgd, hy])]
  rfl
/-- A guard that itself was not reached. -/
theorem op_no' (g t k : Nat) (b : Bool) (hgd : o.guard = some (g, b)) (hd : (ops[g]?).bind (·.dst) = some t) (hb : r.getD k (.val undef) = .val undef) : opOk P ops a w r o (reads ++ [(t, some k)]) (.val undef) := by
  intro σ w' hx hg
  have h2 := (given_right _ _ hg).1
  rw [hb] at h2
  have hy : ∀ c, yielded ops σ.tmps g ≠ some c := fun c hc => by
    unfold yielded at hc
    rw [hd] at hc
    simp only [Option.bind_some] at hc
    cases hx : σ.tmps[t]? with
    | none => rw [hx] at hc; cases hc
    | some u =>
      have h3 : σ.tmps.getD t undef = u := by rw [Array.getD_eq_getD_getElem?, hx]; rfl
      have h4 : u = undef := by rw [← h3]; exact h2
      rw [hx, h4] at hc; simp [undef] at hc
  rw [if_neg (by
    simp only [Region.wanted, hgd]
    cases hc : yielded ops σ.tmps g with
    | none => simp
    | some c => exact absurd hc (hy c))]
  rfl

theorem op_calls (f : FuncId) (xs : Array Operand) (tys : Array TypeId) (args : Act → Array Value) (hgd : o.guard = none) (ho : o.op = .call { callee := .value (.func f), args := xs, argTypes := tys })
    (hc : ∀ (ys : Array Value) (w : World), (callFunc f ys).run P w = .ok (.enter f ys) w)
    (h : ∀ (σ : Act) (w' : World), Ext w w' → Given a r σ w' reads → xs.map σ.eval = args σ ∧ Calls P f (args σ) w' fun e w'' => ∃ v, e = .returned v ∧ Ext w' w'' ∧ s.p v w'') : opOk P ops a w r o reads s := by
  intro σ w' hx hg
  rw [if_pos (wanted_none hgd _)]
  obtain ⟨ha, h⟩ := h σ w' hx hg
  unfold Oper.wp
  have hr : (execOp σ.eval o).run P w' = .ok (.enter f (args σ)) w' := by
    obtain ⟨dst, op, type, pos, after, guard⟩ := o
    simp only at ho
    subst ho
    have he : execOp σ.eval { dst, op := .call { callee := .value (.func f), args := xs, argTypes := tys }, type, pos, after, guard } = callFunc f (#[] ++ xs.map σ.eval ++ #[]) := rfl
    rw [he, Array.empty_append, Array.append_empty, ha]; exact hc _ _
  rw [hr]
  refine Calls.mono h fun e w'' he => ?_
  obtain ⟨v, rfl, hx', hs⟩ := he
  exact ⟨v, rfl, hx', hs⟩
end

theorem runs_pick_t {P : Program} {o : Oper} {ρ : Operand → Value} {w : World} {v : Value} (c x y : Operand) (ho : o.op = .pick c x y) (hc : ρ c = .bool true) (hv : ρ x = v) : Runs P o ρ w v := by
  subst hv
  unfold Runs execOp
  simp [ho, hc, asBool]
theorem runs_pick_f {P : Program} {o : Oper} {ρ : Operand → Value} {w : World} {v : Value} (c x y : Operand) (ho : o.op = .pick c x y) (hc : ρ c = .bool false) (hv : ρ y = v) : Runs P o ρ w v := by
  subst hv
  unfold Runs execOp
  simp [ho, hc, asBool]
/-- In a region without a draw: an operation whose guard says yes. -/
theorem w_yes {P : Program} {ops : Array Oper} {rest : List Oper} {o : Oper} {a : Act} {Q : Exit → Act → World → Prop} {w : World} (g t : Nat) (b : Bool) (hgd : o.guard = some (g, b)) (hd : (ops[g]?).bind (·.dst) = some t)
    (hv : a.tmps.getD t undef = .bool b) (h : wpList P ops Q (⟨o.dst, o.op, o.type, o.pos, o.after, none⟩ :: rest) a w) : wpList P ops Q (o :: rest) a w := by
  have hy := yielded_of (ops := ops) hd hv
  unfold wpList at h ⊢
  rw [if_pos (by simp [Region.wanted])] at h
  rw [if_pos (by simp [Region.wanted, hgd, hy])]
  exact h

/-- A pointer to a cell that holds u. -/
def Sp.ptr (u : Value) : Sp := .any (fun v w => ∃ ad : Addr, v = .pointer (some ad) ∧ w.cell? ad = some u) fun _ _ _ ⟨ad, h1, h2⟩ he => ⟨ad, h1, he.cell h2⟩
theorem runs_load {P : Program} {o : Oper} {ρ : Operand → Value} {w : World} {v : Value} {ty : TypeId} {k : IntKind} {z : Int} (x : Operand) (ho : o.op = .load ty x) (hu : P.underlying ty = some (.int k)) (hv : ρ x = v) (h : (Sp.ptr (.int k z)).p v w) : Runs P o ρ w (.int k z) := by
  obtain ⟨ad, rfl, hc⟩ := h
  unfold Runs execOp
  have hagg : ∀ w : World, (isAgg ty).run P w = .ok false w := fun w => by simp [isAgg, run_underlying hu]
  simp [ho, hv, go_sem, hagg, hc]
theorem fill_ok : ∀ (us : List Value) (k : Nat) (cells : Array Value), (∀ u ∈ us, u.cells = #[u]) → k + us.length = cells.size →
    Instr.fill (fun i => some (i * 1, 1)) cells ((us.zipIdx k).map fun p => (p.2, p.1)) = some (cells.toList.take k ++ us).toArray
  | [], k, cells, _, h => by
    have : cells.toList.length ≤ k := by simp at h ⊢; omega
    simp [Instr.fill, List.take_of_length_le this]
  | u :: us, k, cells, h1, h => by
    have hu := h1 u (List.mem_cons_self ..)
    have hk : k < cells.size := by simp at h; omega
    have ih := fill_ok us (k + 1) (cells.setIfInBounds k u) (fun x hx => h1 x (List.mem_cons_of_mem _ hx)) (by simp at h ⊢; omega)
    simp only [List.zipIdx_cons, List.map_cons, Instr.fill, hu, Nat.mul_one]
    rw [if_neg (by simp; omega)]
    have hz : (#[u].zipIdx.foldl (fun cs (x : Value × Nat) => cs.setIfInBounds (k + x.2) x.1) cells) = cells.setIfInBounds k u := by simp [Array.zipIdx]
    rw [show (fun (cs : Array Value) (x : Value × Nat) => match x with | (c, j) => cs.setIfInBounds (k + j) c) = fun cs (x : Value × Nat) => cs.setIfInBounds (k + x.2) x.1 from rfl, hz]
    simp only [Nat.mul_one] at ih
    rw [ih]
    congr 2
    rw [Array.toList_setIfInBounds, List.take_set, List.take_succ_eq_append_getElem (by simpa using hk), List.set_append_right _ _ (by simp; omega)]
    have hl2 : k - min k cells.size = 0 := by omega
    simp [hl2]

section
variable {P : Program} {ops : Array Oper} {rest : List Oper} {o : Oper} {a : Act} {Q : Exit → Act → World → Prop} {w : World} {t e : TypeId} {z : Value} {bytes : Nat}
theorem run_buildSlice (E : El P t e z bytes) (us : List Value) (arr : Array (Nat × Value)) (harr : arr.toList = (us.zipIdx 0).map fun p => (p.2, p.1)) (hone : ∀ u ∈ us, u.cells = #[u]) (n : Nat) (hn : n = us.length) (hs : n ≤ 1000000) (w : World) :
    (Instr.buildSlice t n arr).run P w = .ok (.slice (some ⟨w.heap.size, 0, none⟩) n n) (w.alloc (.cells us.toArray e)) := by
  subst hn
  obtain ⟨i0, hi0, hz, hsz, _⟩ := E.info
  have hu := E.hu
  have hf := fun (zs : Array Value) (hzs : us.length = zs.size) => fill_ok us 0 zs hone (by simpa using hzs)
  simp only [List.take_zero, List.nil_append] at hf
  simp only [Nat.mul_one] at hf
  unfold Instr.buildSlice
  by_cases h0 : us.length = 0
  · simp [run_underlying hu, sizeOf, typeInfo, hi0, hsz, h0]
    rw [harr, hf _ (by simp [h0])]
    simp [newRow]
  · simp [run_underlying hu, sizeOf, typeInfo, hi0, hsz, h0, show ¬ 16777216 < us.length by omega, zeroValue, hz]
    rw [harr, hf _ (by simp)]
    simp [newRow]
theorem w_build (E : El P t e z bytes) (n : Nat) (ps : Array (Nat × Operand)) (us : List Value) (hgd : o.guard = none) (ho : o.op = .buildSlice t n ps) (hps : (ps.toList.map fun x => (x.1, a.eval x.2)) = (us.zipIdx 0).map fun p => (p.2, p.1))
    (hone : ∀ u ∈ us, u.cells = #[u]) (hn : n = us.length) (hs : n ≤ 1000000)
    (k : wpList P ops Q rest (a.put o.dst (.slice (some ⟨w.heap.size, 0, none⟩) n n)) (w.alloc (.cells us.toArray e))) : wpList P ops Q (o :: rest) a w := by
  refine wpList_plain hgd fun K hK => ?_
  unfold Oper.wp execOp
  have hr := run_buildSlice (P := P) E us (ps.map fun x => (x.1, a.eval x.2)) (by rw [Array.toList_map]; exact hps) hone n hn hs w
  simp only [ho]
  rw [show (Instr.buildSlice t n (ps.map fun (i, x) => (i, a.eval x))) = Instr.buildSlice t n (ps.map fun x => (x.1, a.eval x.2)) from rfl]
  simp [hr]
  exact hK _ _ k
end
theorem Sl.oneCell {w : World} {v : Value} {xs : List Value} (h : Sl w v xs) : v.cells = #[v] := by
  obtain ⟨A, c, rfl, _⟩ := h; rfl
theorem one1 {u : Value} (h : u.cells = #[u]) : ∀ x ∈ [u], x.cells = #[x] := by intro x hx; simp at hx; subst hx; exact h
theorem one2 {u u' : Value} (h : u.cells = #[u]) (h' : u'.cells = #[u']) : ∀ x ∈ [u, u'], x.cells = #[x] := by intro x hx; simp at hx; rcases hx with rfl | rfl <;> assumption
theorem one3 {u u' u2 : Value} (h : u.cells = #[u]) (h' : u'.cells = #[u']) (h2 : u2.cells = #[u2]) : ∀ x ∈ [u, u', u2], x.cells = #[x] := by intro x hx; simp at hx; rcases hx with rfl | rfl | rfl <;> assumption

/-- A new row that holds just us is owned. -/
theorem own_new {w : World} {e : TypeId} (us : List Value) (hs : us.length ≤ 1000000) : (w.alloc (.cells us.toArray e)).ownsRow w.heap.size e 1 (.slice (some ⟨w.heap.size, 0, none⟩) us.length us.length) us.length us := by
  refine ⟨by simp, .inr ⟨w.heap.size, us.length, us.toArray, rfl, Nat.le_refl _, heap_alloc_new w _, Nat.le_refl _, by simp only [maxLen]; omega, by simp, by simp⟩⟩

section
variable {P : Program} {ops : Array Oper} {rest : List Oper} {o : Oper} {a : Act} {Q : Exit → Act → World → Prop} {w : World} {t e : TypeId} {z : Value} {bytes : Nat}
/-- A list written out: the world and the slice under new names. -/
theorem w_new (E : El P t e z bytes) {n : Nat} {ps : Array (Nat × Operand)} (us : List Value) (hgd : o.guard = none) (ho : o.op = .buildSlice t n ps) (hps : (ps.toList.map fun x => (x.1, a.eval x.2)) = (us.zipIdx 0).map fun p => (p.2, p.1))
    (hone : ∀ u ∈ us, u.cells = #[u]) (hn : n = us.length) (hs : n ≤ 1000000)
    (k : ∀ v' w', Ext w w' → w'.ownsRow w.heap.size e 1 v' us.length us → wpList P ops Q rest (a.put o.dst v') w') : wpList P ops Q (o :: rest) a w := by
  refine w_build E n ps us hgd ho hps hone hn hs (k _ _ ((Ext.refl _).alloc _) ?_)
  subst hn; exact own_new us hs
end
theorem add_zero_off (g i : Nat) : (⟨g, 0, none⟩ : Addr).add i = ⟨g, i, none⟩ := by unfold Addr.add; split <;> simp_all

section
variable {w : World} {base : Nat} {e : TypeId} {v : Value} {xs : List Value}
/-- The address of a place of an owned slice. -/
theorem own_at (h : w.ownsRow base e 1 v xs.length xs) {i : Nat} (hi : i < xs.length) :
    ∃ g cap, v = .slice (some ⟨g, 0, none⟩) xs.length cap ∧ base ≤ g ∧ g < w.heap.size ∧ w.cell? ⟨g, i, none⟩ = some xs[i] ∧ w.frozen? ⟨g, i, none⟩ = false ∧ ∀ u, (w.setCell ⟨g, i, none⟩ u).ownsRow base e 1 v (xs.set i u).length (xs.set i u) := by
  have h' := h
  obtain ⟨hl, hn | ⟨g, cap, cur, hv, hb, hg, h1, h2, hs, ht⟩⟩ := h
  · obtain ⟨_, h0⟩ := hn; omega
  · have hgl : g < w.heap.size := (Array.getElem?_eq_some_iff.1 hg).1
    have hadd := add_zero_off g i
    refine ⟨g, cap, hv, hb, hgl, ?_, ?_, fun u => ?_⟩
    · have := h'.cells (g := g) (by rw [hv]; rfl) i _ (List.getElem?_eq_getElem hi)
      simpa [hadd] using this
    · unfold World.frozen?; rw [hg]; simp
    · refine ⟨by simp, .inr ⟨g, cap, cur.setIfInBounds i u, by rw [List.length_set]; exact hv, hb, ?_, by rw [List.length_set]; exact h1, h2, by simpa using hs, ?_⟩⟩
      · simp [World.setCell, Array.getElem?_modify, hg]
      · simp only [Nat.mul_one, List.length_set] at ht ⊢
        rw [Array.toList_setIfInBounds, List.take_set, ht]
end

section
variable {P : Program} {ops : Array Oper} {rest : List Oper} {o : Oper} {a : Act} {Q : Exit → Act → World → Prop} {w : World} {t e : TypeId} {z : Value} {bytes : Nat}
theorem run_store_one {i0 : TypeInfo} (hi0 : P.info? e = some i0) (hs : i0.size = 1) {g i : Nat} {u u0 : Value} (hu : u.cells = #[u]) (h1 : u.oneCell' = true) (hc : w.cell? ⟨g, i, none⟩ = some u0) (hf : w.frozen? ⟨g, i, none⟩ = false) :
    (Instr.storeAt e (.pointer (some ⟨g, i, none⟩)) u).run P w = .ok () (w.setCell ⟨g, i, none⟩ u) := by
  have h := run_storeCells_cells (P := P) g i [u] 0 w (fun j hj => by
    obtain rfl : j = 0 := by simpa using hj
    simp [hc]) (fun j hj => by
    obtain rfl : j = 0 := by simpa using hj
    simpa using hf) (by simpa using h1)
  unfold Instr.storeAt storeVar
  rw [hu]
  simp only [Instr.sureAddr, Sem.run_bind, Sem.run_pure, Result.andThen_ok, sizeOf, typeInfo]
  simpa [hi0, hs, World.setCells] using h

theorem runs_oidx (E : El P t e z bytes) {ρ : Operand → Value} (x y : Operand) {v : Value} {g n c i : Nat} (ho : o.op = .indexAddr t x y) (hv : ρ x = v) (hv' : v = .slice (some ⟨g, 0, none⟩) n c) (hy : ρ y = .int .i64 i) (hi : i < n) :
    Runs P o ρ w (.pointer (some ⟨g, i, none⟩)) := by
  subst hv'
  obtain ⟨i0, hi0, _, hsz, _⟩ := E.info
  have hu := E.hu
  unfold Runs execOp
  simp [ho, hv, hy, Instr.indexAt, run_underlying hu, sizeOf, typeInfo, hi0, hsz, go_sem, hi]
/-- v[i] = u, where the call owns v: the index and the store. -/
theorem w_oidx (E : El P t e z bytes) (x y : Operand) {base : Nat} {v : Value} {xs : List Value} {i : Nat} (hgd : o.guard = none) (ho : o.op = .indexAddr t x y) (hv : a.eval x = v) (hown : w.ownsRow base e 1 v xs.length xs) (hy : a.eval y = .int .i64 i) (hi : i < xs.length)
    (k : ∀ g, v.ownBlock = some g → base ≤ g → g < w.heap.size → wpList P ops Q rest (a.put o.dst (.pointer (some ⟨g, i, none⟩))) w) : wpList P ops Q (o :: rest) a w := by
  obtain ⟨g, cap, hv', hb, hg, hc, hf, _⟩ := own_at hown hi
  exact wpList_runs hgd (runs_oidx E x y ho hv hv' hy hi) (k g (by rw [hv']; rfl) hb hg)
theorem w_ostore (E : El P t e z bytes) (x y : Operand) {base : Nat} {v u : Value} {xs : List Value} {g i : Nat} (hgd : o.guard = none) (ho : o.op = .store e x y) (hd : o.dst = none) (hx : a.eval x = .pointer (some ⟨g, i, none⟩)) (hy : a.eval y = u) (hu : u.cells = #[u]) (h1 : u.oneCell' = true)
    (hown : w.ownsRow base e 1 v xs.length xs) (hg : v.ownBlock = some g) (hi : i < xs.length)
    (k : ∀ w', Below base w w' → w'.ownsRow base e 1 v (xs.set i u).length (xs.set i u) → wpList P ops Q rest a w') : wpList P ops Q (o :: rest) a w := by
  obtain ⟨g', cap, hv', hb, hgs, hc, hf, hset⟩ := own_at hown hi
  obtain rfl : g' = g := by rw [hv'] at hg; simpa [Value.ownBlock] using hg
  obtain ⟨i0, hi0, _, hsz, _⟩ := E.info
  refine wpList_plain hgd fun K hK => ?_
  have hr := run_store_one (P := P) hi0 hsz hu h1 hc hf
  have hk := hK _ _ (k _ ((Below.refl _ _).setCell (p := ⟨g', i, none⟩) hb u) (hset u))
  unfold Oper.wp execOp
  simp only [ho, hx, hy, Sem.run_bind, hr, Result.andThen_ok, Sem.run_pure, Oper.upon, hd, Act.put]
  exact hk
end
theorem runs_aidx {P : Program} {o : Oper} {ρ : Operand → Value} {w : World} {t e : TypeId} {n : Nat} {ad : Addr} {i0 : TypeInfo} (hu : P.underlying t = some (.array n e)) (hi0 : P.info? e = some i0) (hs : i0.size = 1) (x y : Operand) (ho : o.op = .indexAddr t x y)
    (hx : ρ x = .pointer (some ad)) (i : Nat) (hy : ρ y = .int .i64 i) (hi : i < n) : Runs P o ρ w (.pointer (some (ad.add i))) := by
  unfold Runs execOp
  simp [ho, hx, hy, Instr.indexAt, run_underlying hu, sizeOf, typeInfo, hi0, hs, go_sem, hi]
theorem runs_load_at {P : Program} {o : Oper} {ρ : Operand → Value} {w : World} {ty : TypeId} {k : IntKind} {z : Int} {ad : Addr} (x : Operand) (ho : o.op = .load ty x) (hu : P.underlying ty = some (.int k)) (hv : ρ x = .pointer (some ad)) (h : w.cell? ad = some (.int k z)) : Runs P o ρ w (.int k z) :=
  runs_load x ho hu hv ⟨ad, rfl, h⟩

end Go.Proofs.Ytabbgnlabiakoaa
