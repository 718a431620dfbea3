/- Steps of a walk at structs behind pointers and at boxed values: a field's address, a load, a store, a box, a variable, a struct written out, a whole struct read or written. -/
import Derived.Test.YtabbgnlabiakoaaObj
import Derived.IntWalk
namespace Go.Proofs.Ytabbgnlabiakoaa
open Go.RowKit

/-- A struct type whose fields are one cell each. -/
structure St (P : Program) (t : TypeId) (n : Nat) (zs : List Value) : Prop where
  u : ∃ fs, P.underlying t = some (.struct fs) ∧ fs.size = n ∧ ∀ (i : Nat) (f : Field), fs[i]? = some f → f.offset = i ∧ (P.info? f.type).map (·.size) = some 1
  info : ∃ i : TypeInfo, P.info? t = some i ∧ i.zero = some (.agg zs.toArray) ∧ i.size = n
  zl : zs.length = n

section
variable {P : Program} {ops : Array Oper} {rest : List Oper} {o : Oper} {a : Act} {Q : Exit → Act → World → Prop} {w : World} {t : TypeId} {n : Nat} {zs : List Value}
/-- &p.f -/
theorem runs_field {ρ : Operand → Value} (E : St P t n zs) (x : Operand) (g i : Nat) (ho : o.op = .fieldAddr t x i) (hx : ρ x = .pointer (some ⟨g, 0, none⟩)) (hi : i < n) : Runs P o ρ w (.pointer (some ⟨g, i, none⟩)) := by
  obtain ⟨fs, hu, hs, hf⟩ := E.u
  have hfi : fs[i]? = some (fs[i]'(by omega)) := Array.getElem?_eq_getElem (by omega)
  obtain ⟨h1, h2⟩ := hf i _ hfi
  cases hq : P.info? (fs[i]'(by omega)).type with
  | none => rw [hq] at h2; simp at h2
  | some j =>
    have hj : j.size = 1 := by simpa [hq] using h2
    unfold Runs execOp
    have hadd := add_zero_off g i
    simp [ho, hx, Instr.fieldAt, Instr.sureAddr, run_underlying hu, hfi, fieldPlace, sizeOf, typeInfo, hq, hj, h1, hadd]
/-- p.f, a field of one cell -/
theorem runs_fload {ρ : Operand → Value} {ty : TypeId} (x : Operand) {g i : Nat} {cs : List Value} {u : Value} (ho : o.op = .load ty x) (hx : ρ x = .pointer (some ⟨g, i, none⟩)) (ha : (isAgg ty).run P w = .ok false w) (h : Fs w g cs) (hi : cs[i]? = some u) : Runs P o ρ w u := by
  have hc := h.cell hi
  unfold Runs execOp
  simp [ho, hx, go_sem, ha, hc]
theorem w_field (E : St P t n zs) (x : Operand) (g i : Nat) (hgd : o.guard = none) (ho : o.op = .fieldAddr t x i) (hx : a.eval x = .pointer (some ⟨g, 0, none⟩)) (hi : i < n)
    (k : wpList P ops Q rest (a.put o.dst (.pointer (some ⟨g, i, none⟩))) w) : wpList P ops Q (o :: rest) a w :=
  wpList_runs hgd (runs_field E x g i ho hx hi) k
theorem w_fload {ty : TypeId} (x : Operand) {g i : Nat} {cs : List Value} {u : Value} (hgd : o.guard = none) (ho : o.op = .load ty x) (hx : a.eval x = .pointer (some ⟨g, i, none⟩)) (h : Fs w g cs) (hi : cs[i]? = some u) (ha : ∀ w, (isAgg ty).run P w = .ok false w)
    (k : wpList P ops Q rest (a.put o.dst u) w) : wpList P ops Q (o :: rest) a w :=
  wpList_runs hgd (runs_fload x ho hx (ha w) h hi) k
/-- p.f = u, a field of one cell: the world under a new name. -/
theorem w_fstore {ty : TypeId} (x y : Operand) {g i : Nat} {cs : List Value} {u : Value} (hgd : o.guard = none) (ho : o.op = .store ty x y) (hd : o.dst = none) (hx : a.eval x = .pointer (some ⟨g, i, none⟩)) (hy : a.eval y = u) (h : Fs w g cs) (hi : i < cs.length) (hu : u.cells = #[u]) (h1 : u.oneCell' = true)
    (hs : (P.info? ty).map (·.size) = some 1) (k : ∀ w', Mod (fun k => k = g) w w' → Fs w' g (cs.set i u) → wpList P ops Q rest a w') : wpList P ops Q (o :: rest) a w := by
  cases hq : P.info? ty with
  | none => rw [hq] at hs; simp at hs
  | some i0 =>
    have hsz : i0.size = 1 := by simpa [hq] using hs
    refine wpList_plain hgd fun K hK => ?_
    have hr := run_store_one (P := P) hq hsz hu h1 (h.cell (List.getElem?_eq_getElem hi)) (h.frozen i)
    have hk := hK _ _ (k _ (Mod.setCell w ⟨g, i, none⟩ u) (h.set i u))
    unfold Oper.wp execOp
    simp only [ho, hx, hy, Sem.run_bind, hr, Result.andThen_ok, Sem.run_pure, Oper.upon, hd, Act.put]
    exact hk
/-- A value put into a block of its own: the world under a new name. -/
theorem w_box {ty : TypeId} (x : Operand) (cs : List Value) {v : Value} (hgd : o.guard = none) (ho : o.op = .box ty x) (hx : a.eval x = v) (hc : v.cells.toList = cs)
    (k : ∀ g w', w.heap.size ≤ g → Ext w w' → Fs w' g cs → wpList P ops Q rest (a.put o.dst (.pointer (some ⟨g, 0, none⟩))) w') : wpList P ops Q (o :: rest) a w := by
  refine wpList_plain hgd fun K hK => ?_
  have hk := hK _ _ (k _ _ (Nat.le_refl _) ((Ext.refl w).alloc (.cells v.cells ty)) (by subst hc; exact Fs.alloc w v.cells ty))
  unfold Oper.wp execOp
  simp [ho, hx, Instr.box, newVar, newRow]
  exact hk
/-- A variable of its own, of value zero. -/
theorem w_alloc (E : St P t n zs) (hgd : o.guard = none) (ho : o.op = .alloc t)
    (k : ∀ g w', w.heap.size ≤ g → Ext w w' → Fs w' g zs → wpList P ops Q rest (a.put o.dst (.pointer (some ⟨g, 0, none⟩))) w') : wpList P ops Q (o :: rest) a w := by
  obtain ⟨i0, hi, hz, hs⟩ := E.info
  refine wpList_plain hgd fun K hK => ?_
  have hk := hK _ _ (k _ _ (Nat.le_refl _) ((Ext.refl w).alloc (.cells zs.toArray t)) (by simpa using Fs.alloc w zs.toArray t))
  unfold Oper.wp execOp
  simp [ho, Instr.alloc, newVar, newRow, zeroValue, typeInfo, hi, hz, Value.cells]
  exact hk
theorem run_loadVar_agg (E : St P t n zs) {g : Nat} {cs : List Value} (h : Fs w g cs) (hl : cs.length = n) : (loadVar t ⟨g, 0, none⟩).run P w = .ok (.agg cs.toArray) w := by
  obtain ⟨fs, hu, _, _⟩ := E.u
  obtain ⟨i0, hi, _, hs⟩ := E.info
  have hc := run_loadCells_list (P := P) w ⟨g, 0, none⟩ cs (fun j u hj => by rw [add_zero_off]; exact h.cell hj)
  rw [hl] at hc
  simp [loadVar, isAgg, run_underlying hu, sizeOf, typeInfo, hi, hs, hc]
/-- The whole struct, read. -/
theorem w_aload (E : St P t n zs) (x : Operand) {g : Nat} {cs : List Value} (hgd : o.guard = none) (ho : o.op = .load t x) (hx : a.eval x = .pointer (some ⟨g, 0, none⟩)) (h : Fs w g cs) (hl : cs.length = n)
    (k : wpList P ops Q rest (a.put o.dst (.agg cs.toArray)) w) : wpList P ops Q (o :: rest) a w := by
  refine wpList_runs hgd ?_ k
  unfold Runs execOp
  simp [ho, hx, Instr.loadAt, Instr.sureAddr, run_loadVar_agg E h hl]
/-- A result that is a struct in a variable. -/
theorem ret_one (E : St P t n zs) {fn : Func} {s g : Nat} {cs : List Value} {tmps : Array Value} (hrs : fn.results = #[.cell s t]) (hp : tmps.getD s undef = .pointer (some ⟨g, 0, none⟩)) (h : Fs w g cs) (hl : cs.length = n) :
    (results fn tmps).run P w = .ok (.agg cs.toArray) w := by
  have hr := run_loadVar_agg E h hl
  rw [Array.getD_eq_getD_getElem?] at hp
  simp only [results, hrs]
  simp [hp, asAddr, hr]
theorem ret_two (E : St P t n zs) {fn : Func} {s s' g : Nat} {cs : List Value} {tmps : Array Value} {v : Value} (hrs : fn.results = #[.cell s t, .tmp s']) (hp : tmps.getD s undef = .pointer (some ⟨g, 0, none⟩)) (hv : tmps.getD s' undef = v) (h : Fs w g cs) (hl : cs.length = n) :
    (results fn tmps).run P w = .ok (.tuple #[.agg cs.toArray, v]) w := by
  have hr := run_loadVar_agg E h hl
  rw [Array.getD_eq_getD_getElem?] at hp hv
  simp only [results, hrs]
  simp [hp, hv, asAddr, hr]
theorem setCells_fs : ∀ (us : List Value) (i : Nat) {w : World} {g : Nat} {pre post old : List Value}, Fs w g (pre ++ old ++ post) → pre.length = i → old.length = us.length → Fs (w.setCells g i us) g (pre ++ us ++ post)
  | [], _, w, g, pre, post, old, h, _, hl => by
    obtain rfl : old = [] := List.eq_nil_of_length_eq_zero hl
    exact h
  | u :: us, i, w, g, pre, post, old, h, hp, hl => by
    cases old with
    | nil => simp at hl
    | cons u0 old =>
      have h1 : Fs (w.setCell ⟨g, i, none⟩ u) g ((pre ++ [u]) ++ old ++ post) := by
        have := h.set i u
        rw [List.append_assoc, List.set_append_right _ _ (by omega)] at this
        have e : i - pre.length = 0 := by omega
        rw [e] at this
        simpa using this
      have := setCells_fs us (i + 1) h1 (by simp; omega) (by simpa using hl)
      simpa [World.setCells] using this
theorem setCells_mod : ∀ (us : List Value) (i : Nat) (w : World) (g : Nat), Mod (fun k => k = g) w (w.setCells g i us)
  | [], _, w, g => Mod.refl _ w
  | u :: us, i, w, g => by
    have := (Mod.setCell w ⟨g, i, none⟩ u).trans (setCells_mod us (i + 1) (w.setCell ⟨g, i, none⟩ u) g) (F := fun k => k = g) (fun k _ h => h)
    simpa [World.setCells] using this
/-- The whole struct, written: the world under a new name. -/
theorem w_astore (E : St P t n zs) (x y : Operand) {g : Nat} {cs us : List Value} (hgd : o.guard = none) (ho : o.op = .store t x y) (hd : o.dst = none) (hx : a.eval x = .pointer (some ⟨g, 0, none⟩)) (hy : a.eval y = .agg us.toArray) (h : Fs w g cs) (hl : cs.length = n) (hl' : us.length = n) (h1 : ∀ u ∈ us, u.oneCell' = true)
    (k : ∀ w', Mod (fun k => k = g) w w' → Fs w' g us → wpList P ops Q rest a w') : wpList P ops Q (o :: rest) a w := by
  obtain ⟨i0, hi, _, hs⟩ := E.info
  refine wpList_plain hgd fun K hK => ?_
  have hr := run_storeCells_cells (P := P) g 0 us 0 w (fun j hj => by
    have hj' : j < cs.length := by omega
    simp [h.cell (List.getElem?_eq_getElem hj')]) (fun j _ => by simpa using h.frozen j) h1
  have hk := hK _ _ (k _ (setCells_mod us 0 w g) (by
    have := setCells_fs us 0 (pre := []) (post := []) (old := cs) (w := w) (g := g) (by simpa using h) rfl (by omega)
    simpa using this))
  unfold Oper.wp execOp
  simp only [ho, hx, hy, Sem.run_bind, Instr.storeAt, storeVar, Instr.sureAddr, Sem.run_pure, Result.andThen_ok, sizeOf, typeInfo]
  simp [hi, hs, hl', Value.cells]
  simp at hr
  simp [hr, Oper.upon, hd, Act.put]
  exact hk
end
theorem fill_st : ∀ (ps : List (Nat × Value)) (cs : List Value) (places : Nat → Option (Nat × Nat)), (∀ p ∈ ps, places p.1 = some (p.1, 1) ∧ p.1 < cs.length ∧ p.2.cells = #[p.2]) →
    Instr.fill places cs.toArray ps = some (ps.foldl (fun acc p => acc.set p.1 p.2) cs).toArray
  | [], cs, _, _ => rfl
  | (i, v) :: ps, cs, places, h => by
    obtain ⟨h1, h2, h3⟩ := h (i, v) (List.mem_cons_self ..)
    simp only at h1 h2 h3
    have ih := fill_st ps (cs.set i v) places fun p hp => by
      have := h p (List.mem_cons_of_mem _ hp); simpa using this
    have h4 : ¬ cs.length < i + 1 := by omega
    simp only [Instr.fill, h1, h3, List.foldl_cons]
    simp [Array.zipIdx, h4]
    simpa using ih
theorem run_places {P : Program} {w : World} : ∀ (l : List Field) (k : Nat), (∀ (i : Nat) (f : Field), l[i]? = some f → f.offset = k + i ∧ (sizeOf f.type).run P w = .ok 1 w) →
    (l.mapM fun f => (do pure (f.offset, ← sizeOf f.type) : Sem (Nat × Nat))).run P w = .ok ((List.range l.length).map fun i => (k + i, 1)) w
  | [], k, _ => by simp
  | f :: l, k, h => by
    obtain ⟨h1, h2⟩ := h 0 f rfl
    have ih := run_places l (k + 1) fun i g hg => by
      obtain ⟨h4, h5⟩ := h (i + 1) g (by simpa using hg)
      exact ⟨by omega, h5⟩
    rw [List.mapM_cons, Sem.run_bind, Sem.run_bind, h2, Result.andThen_ok, Sem.run_pure, Result.andThen_ok, Sem.run_bind, ih, Result.andThen_ok, Sem.run_pure, h1]
    congr 1
    rw [List.length_cons, List.range_succ_eq_map]
    simp [Function.comp_def, Nat.add_assoc, Nat.add_comm 1]
/-- A struct written out. -/
theorem runs_sbuild {P : Program} {o : Oper} {ρ : Operand → Value} {w : World} {t : TypeId} {n : Nat} {zs : List Value} (E : St P t n zs) {ps : Array (Nat × Operand)} (us : List Value) (ho : o.op = .build t ps)
    (hps : ((ps.toList.map fun x => (x.1, ρ x.2)).foldl (fun acc p => acc.set p.1 p.2) zs) = us) (hone : ∀ p ∈ ps.toList, p.1 < n ∧ (ρ p.2).cells = #[ρ p.2]) : Runs P o ρ w (.agg us.toArray) := by
  obtain ⟨fs, hu, hfs, hf⟩ := E.u
  obtain ⟨i0, hi, hz, hs⟩ := E.info
  have hmap := run_places (P := P) (w := w) fs.toList 0 fun i f h => by
    obtain ⟨h1, h2⟩ := hf i f (by simpa using h)
    refine ⟨by omega, ?_⟩
    cases hq : P.info? f.type with
    | none => rw [hq] at h2; simp at h2
    | some ti =>
      have : ti.size = 1 := by simpa [hq] using h2
      simp [sizeOf, typeInfo, hq, this]
  have hmap' : (fs.mapM fun f => (do pure (f.offset, ← sizeOf f.type) : Sem (Nat × Nat))).run P w = .ok ((List.range fs.size).map fun i => (i, 1)).toArray w := by
    rw [Array.mapM_eq_mapM_toList, map_eq_pure_bind, Sem.run_bind, hmap, Result.andThen_ok, Sem.run_pure]
    simp
  have hfill := fill_st (ps.toList.map fun x => (x.1, ρ x.2)) zs (fun i => ((List.range fs.size).map fun i => (i, 1)).toArray[i]?) fun p hp => by
    obtain ⟨q, hq, rfl⟩ := List.mem_map.1 hp
    obtain ⟨h1, h2⟩ := hone q hq
    have hl := E.zl
    refine ⟨?_, by simpa [hl] using h1, h2⟩
    have : q.1 < fs.size := by omega
    simp [this]
  rw [hps] at hfill
  have hpl : (ps.map fun x => (x.1, ρ x.2)).toList = ps.toList.map fun x => (x.1, ρ x.2) := by simp
  unfold Runs execOp
  rw [ho]
  show ((do pure (.value (← Instr.build t (ps.map fun x => (x.1, ρ x.2)))) : Sem Next)).run P w = _
  rw [Sem.run_bind]
  have hb : (Instr.build t (ps.map fun x => (x.1, ρ x.2))).run P w = .ok (.agg us.toArray) w := by
    unfold Instr.build
    have hzv : (zeroValue t).run P w = .ok (.agg zs.toArray) w := by simp [zeroValue, typeInfo, hi, hz]
    rw [Sem.run_bind, hzv, Result.andThen_ok]
    dsimp only
    rw [Sem.run_bind, run_underlying hu, Result.andThen_ok]
    dsimp only
    rw [Sem.run_bind, hmap', Result.andThen_ok]
    dsimp only [Value.cells]
    rw [hpl, hfill]
    rfl
  rw [hb]
  rfl
theorem w_sbuild {P : Program} {ops : Array Oper} {rest : List Oper} {o : Oper} {a : Act} {Q : Exit → Act → World → Prop} {w : World} {t : TypeId} {n : Nat} {zs : List Value} (E : St P t n zs) {ps : Array (Nat × Operand)} (us : List Value) (hgd : o.guard = none) (ho : o.op = .build t ps)
    (hps : ((ps.toList.map fun x => (x.1, a.eval x.2)).foldl (fun acc p => acc.set p.1 p.2) zs) = us) (hone : ∀ p ∈ ps.toList, p.1 < n ∧ (a.eval p.2).cells = #[a.eval p.2])
    (k : wpList P ops Q rest (a.put o.dst (.agg us.toArray)) w) : wpList P ops Q (o :: rest) a w := wpList_runs hgd (runs_sbuild E us ho hps hone) k
/-- A struct type of n fields of one cell each, for the kernel. -/
def stB (P : Program) (t : TypeId) (n : Nat) : Bool := match P.underlying t with
  | some (.struct fs) => fs.size == n && (List.range n).all fun i => match fs[i]? with
    | some f => f.offset == i && (P.info? f.type).map (·.size) == some 1
    | none => false
  | _ => false
theorem St.of {P : Program} {t : TypeId} {n : Nat} {zs : List Value} (h : stB P t n = true) (hz : (P.info? t).map (fun i => (i.zero, i.size)) = some (some (.agg zs.toArray), n)) (hl : zs.length = n) : St P t n zs := by
  refine ⟨?_, ?_, hl⟩
  · unfold stB at h
    cases hu : P.underlying t with
    | none => rw [hu] at h; cases h
    | some u =>
      rw [hu] at h
      cases u <;> try cases h
      rename_i fs
      simp only [Bool.and_eq_true, beq_iff_eq, List.all_eq_true, List.mem_range] at h
      obtain ⟨h1, h2⟩ := h
      refine ⟨fs, rfl, h1, fun i f hi => ?_⟩
      have hlt : i < n := by rw [← h1]; exact (Array.getElem?_eq_some_iff.1 hi).1
      have := h2 i hlt
      rw [hi] at this
      simpa using this
  · cases hq : P.info? t with
    | none => rw [hq] at hz; simp at hz
    | some i => rw [hq] at hz; simp at hz; exact ⟨i, rfl, hz.1, hz.2⟩

/-! ### Integers -/
section
variable {P : Program} {o : Oper} {ρ : Operand → Value} {w : World} {ty ty' : TypeId} {p q : Int} {k : IntKind}
theorem runs_min (x y : Operand) (r : Int) (hr : r = min p q) (ho : o.op = .call { callee := .builtin .min, args := #[x, y], argTypes := #[ty, ty'] }) (hx : ρ x = .int k p) (hy : ρ y = .int k q) : Runs P o ρ w (.int k r) := by
  unfold Runs execOp
  have e : (if q < p then q else p) = min p q := by split <;> omega
  simp [ho, resolve, invoke, builtin, hx, hy, run_min_int2, e, hr]
theorem runs_max (x y : Operand) (r : Int) (hr : r = max p q) (ho : o.op = .call { callee := .builtin .max, args := #[x, y], argTypes := #[ty, ty'] }) (hx : ρ x = .int k p) (hy : ρ y = .int k q) : Runs P o ρ w (.int k r) := by
  unfold Runs execOp
  have e : (if p < q then q else p) = max p q := by split <;> omega
  simp [ho, resolve, invoke, builtin, hx, hy, run_max_int2, e, hr]
theorem runs_sub (x y : Operand) (r : Int) (hr : r = p - q) (hb : -9223372036854775808 ≤ p - q ∧ p - q ≤ 9223372036854775807) (ho : o.op = .binOp .sub ty x y ty) (hx : ρ x = .int .i64 p) (hy : ρ y = .int .i64 q) : Runs P o ρ w (.int .i64 r) := by
  unfold Runs execOp
  have e : IntKind.i64.wrap (p - q) = p - q := IntWalk.i64_in _ hb
  simp [ho, hx, hy, eqGuard, binOp, go_sem]
  rw [hr]; simpa using e
theorem runs_add (x y : Operand) (r : Int) (hr : r = p + q) (hb : -9223372036854775808 ≤ p + q ∧ p + q ≤ 9223372036854775807) (ho : o.op = .binOp .add ty x y ty) (hx : ρ x = .int .i64 p) (hy : ρ y = .int .i64 q) : Runs P o ρ w (.int .i64 r) := by
  unfold Runs execOp
  have e : IntKind.i64.wrap (p + q) = p + q := IntWalk.i64_in _ hb
  simp [ho, hx, hy, eqGuard, binOp, go_sem]
  rw [hr]; simpa using e
theorem runs_mul (x y : Operand) (r : Int) (hr : r = p * q) (hb : -9223372036854775808 ≤ p * q ∧ p * q ≤ 9223372036854775807) (ho : o.op = .binOp .mul ty x y ty) (hx : ρ x = .int .i64 p) (hy : ρ y = .int .i64 q) : Runs P o ρ w (.int .i64 r) := by
  unfold Runs execOp
  have e : IntKind.i64.wrap (p * q) = p * q := IntWalk.i64_in _ hb
  simp [ho, hx, hy, eqGuard, binOp, go_sem]
  rw [hr]; simpa using e
theorem runs_nil (x : Operand) {A : Addr} (ho : o.op = .nilCheck x) (hx : ρ x = .pointer (some A)) : Runs P o ρ w (.pointer (some A)) := by
  unfold Runs execOp
  simp [ho, hx]
theorem runs_aload {t : TypeId} {n : Nat} {zs : List Value} (E : St P t n zs) (x : Operand) {g : Nat} {cs : List Value} (ho : o.op = .load t x) (hx : ρ x = .pointer (some ⟨g, 0, none⟩)) (h : Fs w g cs) (hl : cs.length = n) : Runs P o ρ w (.agg cs.toArray) := by
  unfold Runs execOp
  simp [ho, hx, Instr.loadAt, Instr.sureAddr, run_loadVar_agg E h hl]
end
section
variable {P : Program} {ops : Array Oper} {rest : List Oper} {o : Oper} {a : Act} {Q : Exit → Act → World → Prop} {w : World} {ty ty' : TypeId} {p q : Int} {k : IntKind}
/-- min and max of two integers. -/
theorem w_min (x y : Operand) (r : Int) (hr : r = min p q) (hgd : o.guard = none) (ho : o.op = .call { callee := .builtin .min, args := #[x, y], argTypes := #[ty, ty'] }) (hx : a.eval x = .int k p) (hy : a.eval y = .int k q) (h : wpList P ops Q rest (a.put o.dst (.int k r)) w) : wpList P ops Q (o :: rest) a w :=
  wpList_runs hgd (runs_min x y r hr ho hx hy) h
theorem w_max (x y : Operand) (r : Int) (hr : r = max p q) (hgd : o.guard = none) (ho : o.op = .call { callee := .builtin .max, args := #[x, y], argTypes := #[ty, ty'] }) (hx : a.eval x = .int k p) (hy : a.eval y = .int k q) (h : wpList P ops Q rest (a.put o.dst (.int k r)) w) : wpList P ops Q (o :: rest) a w :=
  wpList_runs hgd (runs_max x y r hr ho hx hy) h
end
theorem agg_of {P : Program} {ty : TypeId} (h : (match P.underlying ty with | some (.struct _) => true | some (.array _ _) => true | none => true | _ => false) = false) (w : World) : (isAgg ty).run P w = .ok false w := by
  cases hu : P.underlying ty with
  | none => rw [hu] at h; cases h
  | some u =>
    rw [hu] at h
    unfold isAgg
    simp only [Sem.run_bind, run_underlying hu, Result.andThen_ok]
    cases u <;> first | rfl | cases h
end Go.Proofs.Ytabbgnlabiakoaa
