/- Steps of a walk at rows that the call owns: cut short, appended to, made, copied into, written to. -/
import Derived.Test.YtabbgnlabiakoaaObjStep
import Derived.Laws.MakeOwn
import Derived.Laws.CopyRow
import Derived.Laws.CopyOwn
namespace Go.Proofs.Ytabbgnlabiakoaa
open Go.RowKit

/-- F, and what is new. -/
def grow (F : Nat → Prop) (w w' : World) : Nat → Prop := fun k => F k ∨ (w.heap.size ≤ k ∧ k < w'.heap.size)
theorem Upd.grow {F : Nat → Prop} {w w' : World} (h : Mod F w w') : Upd F (grow F w w') w w' := ⟨h, fun _ h => h⟩
theorem Sl.one' {w : World} {v : Value} {xs : List Value} (h : Sl w v xs) : v.oneCell' = true := by
  obtain ⟨A, c, rfl, _⟩ := h; rfl
theorem Addr.add_zero' (a : Addr) : a.add 0 = a := by simp [Addr.add]
theorem oneCell_cells {u : Value} (h : u.oneCell' = true) : u.cells = #[u] := by cases u <;> simp [Value.oneCell', Value.cells] at h ⊢

section
variable {P : Program} {o : Oper} {F : Nat → Prop} {w : World} {v : Value} {xs : List Value} {t e : TypeId} {z : Value} {bytes : Nat}
theorem runs_rto {ρ : Operand → Value} (E : El P t e z bytes) (x y : Operand) (j : Nat) (ho : o.op = .slice t x none (some y) none) (hv : ρ x = v) (hy : ρ y = .int .i64 j) (h : Row F w e v xs) (hj : j ≤ xs.length) :
    ∃ v', Runs P o ρ w v' ∧ Row F w e v' (xs.take j) ∧ v'.ownBlock = v.ownBlock := by
  obtain ⟨A, c, rfl, h1, h2, h3⟩ := h.sl
  obtain ⟨i0, hi0, _, hsz, _⟩ := E.info
  have hu := E.hu
  have b1 : (Instr.sliceBound (.int .i64 (j : Int)) c .sliceAcap).run P w = .ok j w := by
    have : j ≤ c := by omega
    simp [Instr.sliceBound, go_sem]; omega
  have ho' := own_take h.own rfl hj
  refine ⟨.slice A j c, ?_, ⟨ho', fun k hk => h.inF k (by cases A <;> exact hk)⟩, by cases A <;> rfl⟩
  unfold Runs execOp
  have hA : (A.map fun x : Addr => x.add 0) = A := by cases A <;> simp [Addr.add_zero']
  simp [ho, hv, hy, Instr.sliceAt, Instr.slice, run_underlying hu, Instr.sliceBounds, sizeOf, typeInfo, hi0, b1, Addr.add_zero']

theorem run_app (E : El P t e z bytes) (ty : TypeId) {s : Value} {ys : List Value} (h : Row F w e v xs) (hs : Sl w s ys) (h1 : ∀ u ∈ ys, u.oneCell' = true) (hb : (xs.length + ys.length) * bytes ≤ 140737488355328) :
    ∃ v' w', (Builtin.append_ #[t, t] ty #[v, s]).run P w = .ok v' w' ∧ Mod F w w' ∧ Row (grow F w w') w' e v' (xs ++ ys) ∧ (v'.ownBlock = v.ownBlock ∨ ∀ k, v'.ownBlock = some k → w.heap.size ≤ k) := by
  obtain ⟨i0, hi, hz, hsz, hby⟩ := E.info
  obtain ⟨v', w', h2, h3, h4, h5⟩ := run_append_sl (P := P) w 0 t ty e i0 z bytes E.hu hi hz hsz hby E.one h.own hs h1 hb E.pos (Nat.zero_le _)
  have hm : Mod F w w' := (Mod.grown h4).mono fun i _ hi => h.inF i hi
  refine ⟨v', w', h2, hm, ⟨h3, fun k hk => ?_⟩, h5.imp id fun he k hk => by rw [he] at hk; cases hk; exact Nat.le_refl _⟩
  have hlt := (h3.lt k hk).2
  rcases h5 with h5 | h5
  · exact .inl (h.inF k (by rw [← h5]; exact hk))
  · rw [h5] at hk; cases hk; exact .inr ⟨Nat.le_refl _, hlt⟩
end

theorem Below.toMod {B : Nat} {w w' : World} (h : Below B w w') : Mod (fun k => B ≤ k) w w' := ⟨h.os, h.tape, h.output, h.size, fun k _ hn => h.block k (by omega)⟩
theorem Fs.below {B g : Nat} {w w' : World} {cs : List Value} (h : Fs w g cs) (hb : Below B w w') (hg : g < B) : Fs w' g cs := h.mod (Below.toMod hb) (by omega)
theorem own_mod_lt {B g : Nat} {w w' : World} {e : TypeId} {v : Value} {xs : List Value} (h : w.ownsRow B e 1 v xs.length xs) (hm : Mod (fun k => k = g) w w') (hg : g < B) : w'.ownsRow B e 1 v xs.length xs :=
  own_mod h hm fun k hk e => by have := (h.lt k hk).1; omega

section
variable {P : Program} {ops : Array Oper} {rest : List Oper} {o : Oper} {a : Act} {Q : Exit → Act → World → Prop} {F : Nat → Prop} {w : World} {v : Value} {xs : List Value} {t e : TypeId} {z : Value} {bytes : Nat}
/-- v[:j] of what is owned -/
theorem w_rto (E : El P t e z bytes) (x y : Operand) (j : Nat) (hgd : o.guard = none) (ho : o.op = .slice t x none (some y) none) (hv : a.eval x = v) (hy : a.eval y = .int .i64 j) (h : Row F w e v xs) (hj : j ≤ xs.length)
    (k : ∀ v', Row F w e v' (xs.take j) → v'.ownBlock = v.ownBlock → wpList P ops Q rest (a.put o.dst v') w) : wpList P ops Q (o :: rest) a w := by
  obtain ⟨v', h1, h2, h3⟩ := runs_rto E x y j ho hv hy h hj
  exact wpList_runs hgd h1 (k v' h2 h3)
/-- append(v, s...), v owned -/
theorem w_rapp (E : El P t e z bytes) (x y : Operand) {s : Value} {ys : List Value} (hgd : o.guard = none) (ho : o.op = .call { callee := .builtin .append, args := #[x, y], argTypes := #[t, t] }) (hv : a.eval x = v) (hy : a.eval y = s)
    (h : Row F w e v xs) (hs : Sl w s ys) (h1 : ∀ u ∈ ys, u.oneCell' = true) (hb : (xs.length + ys.length) * bytes ≤ 140737488355328)
    (k : ∀ v' w', Mod F w w' → Row (grow F w w') w' e v' (xs ++ ys) → (v'.ownBlock = v.ownBlock ∨ ∀ k, v'.ownBlock = some k → w.heap.size ≤ k) → wpList P ops Q rest (a.put o.dst v') w') : wpList P ops Q (o :: rest) a w := by
  refine wpList_plain hgd fun K hK => ?_
  obtain ⟨v', w', hr, h2, h3, h4⟩ := run_app E o.type h hs h1 hb
  unfold Oper.wp execOp
  simp only [ho, resolve, invoke, builtin, Sem.run_bind, Sem.run_pure, Result.andThen_ok, List.map_toArray, List.map_cons, List.map_nil, hv, hy, hr]
  exact hK _ _ (k v' w' h2 h3 h4)
theorem made_list (z : Value) (hz : z.cells = #[z]) (n : Nat) : (madeCells z.cells n).toList = List.replicate n z := by
  apply List.ext_getElem (by simp [size_madeCells])
  intro i h1 h2
  simp [madeCells, hz, Nat.mod_one]
theorem nblk_alloc' (w : World) (o : Obj) : (w.alloc o).heap.size = w.heap.size + 1 := by simp
/-- make([]T, n) -/
theorem w_make (E : El P t e z bytes) (x y : Operand) (n : Nat) (hgd : o.guard = none) (ho : o.op = .makeSlice t x y) (hx : a.eval x = .int .i64 n) (hy : a.eval y = .int .i64 n) (hz : z.cells = #[z]) (hb : bytes * n ≤ 281474976710656) (hn : n ≤ maxLen)
    (k : ∀ v' w', Ext w w' → Row (fun k => w.heap.size ≤ k ∧ k < w'.heap.size) w' e v' (List.replicate n z) → wpList P ops Q rest (a.put o.dst v') w') : wpList P ops Q (o :: rest) a w := by
  obtain ⟨i0, hi, hz0, hsz, hby⟩ := E.info
  have hn' : (n : Int) ≤ 9223372036854775807 := by unfold maxLen at hn; omega
  have hb' : (i0.bytes : Int) * (n : Int) ≤ 281474976710656 := by
    have h : ((bytes * n : Nat) : Int) ≤ 281474976710656 := by omega
    rw [hby]; rwa [Int.natCast_mul] at h
  have hr := run_make (P := P) w t e i0 z E.hu hi hz0 .i64 .i64 n n (by omega) (by omega) hb' hn'
  simp only [Int.toNat_natCast, hsz, Nat.mul_one] at hr
  have hl := made_list z hz n
  have hsz2 := size_madeCells z.cells n
  have hrow : Row (fun k => w.heap.size ≤ k ∧ k < (w.alloc (.cells (madeCells z.cells n) e)).heap.size) (w.alloc (.cells (madeCells z.cells n) e)) e (.slice (some ⟨w.heap.size, 0, none⟩) n n) (List.replicate n z) := by
    refine ⟨⟨(Nat.mul_one _).symm, .inr ⟨w.heap.size, n, madeCells z.cells n, by rw [List.length_replicate], Nat.zero_le _, heap_alloc_new w _, by rw [List.length_replicate]; exact Nat.le_refl _, hn, by rw [hsz2, Nat.mul_one], ?_⟩⟩, fun j hj => ?_⟩
    · rw [hl, List.length_replicate, Nat.mul_one, List.take_of_length_le (by rw [List.length_replicate]; exact Nat.le_refl _)]
    · cases hj; exact ⟨Nat.le_refl _, by show w.heap.size < _; rw [nblk_alloc']; omega⟩
  have hk0 := k _ _ ((Ext.refl w).alloc (.cells (madeCells z.cells n) e)) hrow
  refine wpList_plain hgd fun K hK => ?_
  have hk := hK _ _ hk0
  unfold Oper.wp execOp
  simp only [ho, hx, hy, Sem.run_bind, hr, Result.andThen_ok]
  exact hk
/-- copy(v, s), as much as there is room for -/
theorem w_copy (E : El P t e z bytes) (x y : Operand) {s : Value} {ys : List Value} {ty' : TypeId} (hgd : o.guard = none) (ho : o.op = .call { callee := .builtin .copy, args := #[x, y], argTypes := #[t, ty'] }) (hv : a.eval x = v) (hy : a.eval y = s)
    (h : Row F w e v xs) (hs : Sl w s ys) (hl : ys.length = xs.length) (h1 : ∀ u ∈ ys, u.oneCell' = true)
    (k : ∀ w', Mod F w w' → Row F w' e v ys → wpList P ops Q rest (a.put o.dst (.int .i64 ys.length)) w') : wpList P ops Q (o :: rest) a w := by
  obtain ⟨i0, hi, hz0, hsz, hby⟩ := E.info
  have hsz' : (P.info? e).map (·.size) = some 1 := by simp [hi, hsz]
  obtain ⟨A, c, rfl, hc1, hc2, hc⟩ := hs
  obtain ⟨hown, hin⟩ := h
  have hown' := hown
  obtain ⟨hxl, hn | ⟨g, cap, cur, hv', hb, hg, h2, h3, h4, h5⟩⟩ := hown
  · obtain ⟨rfl, h0⟩ := hn
    have hx0 : xs = [] := List.eq_nil_of_length_eq_zero h0
    have hy0 : ys = [] := List.eq_nil_of_length_eq_zero (by omega)
    subst hx0 hy0
    exact wpList_copy_nothing hgd x y t ty' ho e E.hu hsz' none A 0 0 0 c hv hy rfl (k w (Mod.refl F w) ⟨hown', hin⟩)
  · by_cases h0 : ys.length = 0
    · have hy0 : ys = [] := List.eq_nil_of_length_eq_zero h0
      have hx0 : xs = [] := List.eq_nil_of_length_eq_zero (by omega)
      subst hx0 hy0
      exact wpList_copy_nothing hgd x y t ty' ho e E.hu hsz' (some ⟨g, 0, none⟩) A 0 cap 0 c (by rw [hv, hv']; rfl) hy rfl (k w (Mod.refl F w) ⟨hown', hin⟩)
    · obtain ⟨ad, rfl, hcells⟩ : ∃ ad, A = some ad ∧ ∀ j u, ys[j]? = some u → w.cell? (ad.add j) = some u := by
        obtain ⟨ad, hA, _⟩ := hc 0 ys[0] (List.getElem?_eq_getElem (by omega))
        exact ⟨ad, hA, fun j u hj => by obtain ⟨ad', hA', hh⟩ := hc j u hj; rw [hA] at hA'; cases hA'; exact hh⟩
      have hgl := (Array.getElem?_eq_some_iff.1 hg).1
      refine wpList_copy_own hgd x y t ty' ho e E.hu hsz' g 0 xs.length cap ad ys.length c (by rw [hv, hv']) hy cur e hg ys (by simp [hl]) hcells (by omega) h1 (k _ ?_ ?_)
      · exact ⟨rfl, rfl, rfl, by simp [World.setRow], fun j hj hn => by
          simp only [World.setRow, Array.getElem?_modify]
          rw [if_neg (by rintro rfl; exact hn (hin _ (by rw [hv']; rfl)))]⟩
      · refine ⟨⟨by simp, .inr ⟨g, cap, _, by rw [hl]; exact hv', Nat.zero_le _, setRow_heap w g cur _ e (0, 0) hg, by omega, h3, ?_, ?_⟩⟩, hin⟩
        · simp; omega
        · simp
/-- v[i] = u, v owned: the store (the index: w_oidx). -/
theorem w_rstore (E : El P t e z bytes) (x y : Operand) {u : Value} {g i : Nat} (hgd : o.guard = none) (ho : o.op = .store e x y) (hd : o.dst = none) (hx : a.eval x = .pointer (some ⟨g, i, none⟩)) (hy : a.eval y = u) (h1 : u.oneCell' = true)
    (h : Row F w e v xs) (hg : v.ownBlock = some g) (hi : i < xs.length)
    (k : ∀ w', Mod F w w' → Row F w' e v (xs.set i u) → wpList P ops Q rest a w') : wpList P ops Q (o :: rest) a w := by
  obtain ⟨g', cap, hv', hb, hgs, hc, hf, hset⟩ := own_at h.own hi
  obtain rfl : g' = g := by rw [hv'] at hg; simpa [Value.ownBlock] using hg
  obtain ⟨i0, hi0, _, hsz, _⟩ := E.info
  refine wpList_plain hgd fun K hK => ?_
  have hr := run_store_one (P := P) hi0 hsz (oneCell_cells h1) h1 hc hf
  have hk := hK _ _ (k _ ((Mod.setCell w ⟨g', i, none⟩ u).mono fun j _ hj => by subst hj; exact h.inF _ hg) ⟨hset u, h.inF⟩)
  unfold Oper.wp execOp
  simp only [ho, hx, hy, Sem.run_bind, hr, Result.andThen_ok, Sem.run_pure, Oper.upon, hd, Act.put]
  exact hk
end
end Go.Proofs.Ytabbgnlabiakoaa
