/- Slices of records (structs of n cells) that the call owns: written out, appended to, read. -/
import Derived.Test.YtabbgnlabiakoaaRecs
namespace Go.Proofs.Ytabbgnlabiakoaa
open Go.RowKit

/-- A slice type of elements of n cells, as append wants it. -/
structure ElN (P : Program) (t e : TypeId) (n bytes : Nat) (z : Value) : Prop where
  hu : P.underlying t = some (.slice e)
  info : ∃ i : TypeInfo, P.info? e = some i ∧ i.zero = some z ∧ i.size = n ∧ i.bytes = bytes
  zs : z.cells.size = n
  pos : 0 < n
  bpos : 0 < bytes
theorem ElN.of {P : Program} {t e : TypeId} {n bytes : Nat} {z : Value} (hu : P.underlying t = some (.slice e)) (h : (P.info? e).map (fun i => (i.zero, i.size, i.bytes)) = some (some z, n, bytes)) (zs : z.cells.size = n) (pos : 0 < n) (bpos : 0 < bytes) : ElN P t e n bytes z := by
  obtain ⟨i0, hi, h1, h2, h3⟩ := info_parts h
  exact ⟨hu, ⟨i0, hi, h1, h2, h3⟩, zs, pos, bpos⟩
theorem ElN.elS {P : Program} {t e : TypeId} {n bytes : Nat} {z : Value} (E : ElN P t e n bytes z) : ElS P t e n := by
  obtain ⟨i, h1, _, h3, _⟩ := E.info
  exact ⟨E.hu, ⟨i, h1, h3⟩⟩

/-- The call owns the row v of records of n cells, all of whose blocks are in F. -/
structure RowN (F : Nat → Prop) (w : World) (e : TypeId) (n : Nat) (v : Value) (rows : List (List Value)) : Prop where
  own : w.ownsRow 0 e n v rows.length rows.flatten
  each : ∀ row ∈ rows, row.length = n
  inF : ∀ k, v.ownBlock = some k → F k
theorem flat_len {n : Nat} : ∀ {rows : List (List Value)}, (∀ row ∈ rows, row.length = n) → rows.flatten.length = rows.length * n
  | [], _ => by simp
  | r :: rs, h => by
    rw [List.flatten_cons, List.length_append, h r (List.mem_cons_self ..), flat_len fun x hx => h x (List.mem_cons_of_mem _ hx), List.length_cons, Nat.add_mul]; omega
theorem flat_get {n : Nat} : ∀ {rows : List (List Value)}, (∀ row ∈ rows, row.length = n) → ∀ (k j : Nat) (row : List Value) (u : Value), rows[k]? = some row → row[j]? = some u → rows.flatten[k * n + j]? = some u
  | [], _, k, j, row, u, h, _ => by simp at h
  | r :: rs, h, 0, j, row, u, hk, hj => by
    obtain rfl : r = row := by simpa using hk
    rw [List.flatten_cons, Nat.zero_mul, Nat.zero_add, List.getElem?_append_left (List.getElem?_eq_some_iff.1 hj).1]; exact hj
  | r :: rs, h, k + 1, j, row, u, hk, hj => by
    have hr := h r (List.mem_cons_self ..)
    rw [List.flatten_cons, List.getElem?_append_right (by rw [hr, Nat.add_mul]; omega), hr, show (k + 1) * n + j - n = k * n + j from by rw [Nat.add_mul]; omega]
    exact flat_get (fun x hx => h x (List.mem_cons_of_mem _ hx)) k j row u (by simpa using hk) hj
section
variable {F G : Nat → Prop} {w w' : World} {e : TypeId} {n : Nat} {v : Value} {rows : List (List Value)}
theorem RowN.mono (h : RowN F w e n v rows) (hs : ∀ k, F k → G k) : RowN G w e n v rows := ⟨h.own, h.each, fun k hk => hs k (h.inF k hk)⟩
theorem RowN.nil (w : World) (e : TypeId) (n : Nat) : RowN F w e n (.slice none 0 0) [] := ⟨World.ownsRow_nil w 0 e n, fun _ h => by simp at h, fun k hk => by cases hk⟩
theorem RowN.lt (h : RowN F w e n v rows) {k : Nat} (hk : v.ownBlock = some k) : k < w.heap.size := (h.own.lt k hk).2
theorem RowN.mod (h : RowN F w e n v rows) (hm : Mod G w w') (hd : ∀ k, F k → ¬ G k) : RowN F w' e n v rows := by
  obtain ⟨⟨hl, ho⟩, h2, h3⟩ := h
  refine ⟨⟨hl, ?_⟩, h2, h3⟩
  rcases ho with hn | ⟨g, cap, cur, hv, hg, hh, rest⟩
  · exact .inl hn
  · refine .inr ⟨g, cap, cur, hv, hg, ?_, rest⟩
    rw [hm.block g (Array.getElem?_eq_some_iff.1 hh).1 (hd g (h3 g (by rw [hv]; rfl)))]; exact hh
theorem RowN.ext (h : RowN F w e n v rows) (he : Ext w w') : RowN F w' e n v rows := by
  obtain ⟨⟨hl, ho⟩, h2, h3⟩ := h
  refine ⟨⟨hl, ?_⟩, h2, h3⟩
  rcases ho with hn | ⟨g, cap, cur, hv, hg, hh, rest⟩
  · exact .inl hn
  · exact .inr ⟨g, cap, cur, hv, hg, by rw [he.block g (Array.getElem?_eq_some_iff.1 hh).1]; exact hh, rest⟩
theorem RowN.slS (h : RowN F w e n v rows) : SlS w v n rows := by
  obtain ⟨ho, h2, _⟩ := h
  have ho' := ho
  obtain ⟨hl, hn | ⟨g, cap, cur, hv, hb, hg, h3, h4, h5, h6⟩⟩ := ho
  · obtain ⟨rfl, h0⟩ := hn
    have : rows = [] := List.eq_nil_of_length_eq_zero h0
    subst this
    exact ⟨none, 0, rfl, by simp, by simp [maxLen], fun k row hk => by simp at hk⟩
  · refine ⟨some ⟨g, 0, none⟩, cap, hv, h3, h4, fun k row hk => ⟨h2 row (List.mem_of_getElem? hk), _, rfl, fun j u hj => ?_⟩⟩
    rw [add_add']
    exact ho'.cells (g := g) (by rw [hv]; rfl) (k * n + j) u (flat_get h2 k j row u hk hj)
/-- What is read of it. -/
theorem RowN.recs {α : Type} {R : World → List Value → α → Prop} {l : List α} (h : RowN F w e n v rows) (hl : rows.length = l.length) (hR : ∀ (k : Nat) (row : List Value) (d : α), rows[k]? = some row → l[k]? = some d → R w row d) : Recs n R w v l := ⟨rows, h.slS, hl, hR⟩
end

theorem foldl_seg : ∀ (us : List Value) (off j0 : Nat) (cells : Array Value), off + j0 + us.length ≤ cells.size →
    ((us.zipIdx j0).foldl (fun (cs : Array Value) (p : Value × Nat) => cs.setIfInBounds (off + p.2) p.1) cells) = (cells.toList.take (off + j0) ++ us ++ cells.toList.drop (off + j0 + us.length)).toArray
  | [], off, j0, cells, h => by simp
  | u :: us, off, j0, cells, h => by
    simp only [List.length_cons] at h
    rw [List.zipIdx_cons, List.foldl_cons, foldl_seg us off (j0 + 1) _ (by simp; omega)]
    congr 1
    have h1 : (cells.setIfInBounds (off + j0) u).toList = cells.toList.set (off + j0) u := by simp
    rw [h1, List.length_cons]
    have e1 : (cells.toList.set (off + j0) u).take (off + (j0 + 1)) = cells.toList.take (off + j0) ++ [u] := by
      rw [show off + (j0 + 1) = (off + j0) + 1 from by omega, List.take_set, List.take_succ_eq_append_getElem (by simp; omega), List.set_append_right _ _ (by simp; omega)]
      have : off + j0 - min (off + j0) cells.size = 0 := by omega
      simp [this]
    have e2 : (cells.toList.set (off + j0) u).drop (off + (j0 + 1) + us.length) = cells.toList.drop (off + j0 + (us.length + 1)) := by
      rw [List.drop_set, if_pos (by omega), show off + (j0 + 1) + us.length = off + j0 + (us.length + 1) from by omega]
    rw [e1, e2]; simp
theorem fill_rows {n : Nat} : ∀ (rows : List (List Value)) (k : Nat) (cells : Array Value), (∀ row ∈ rows, row.length = n) → (k + rows.length) * n = cells.size →
    Instr.fill (fun i => some (i * n, n)) cells ((rows.zipIdx k).map fun p => (p.2, .agg p.1.toArray)) = some (cells.toList.take (k * n) ++ rows.flatten).toArray
  | [], k, cells, _, h => by
    have : cells.toList.length ≤ k * n := by simp at h ⊢; omega
    simp [Instr.fill, List.take_of_length_le this]
  | r :: rs, k, cells, h1, h => by
    have hr := h1 r (List.mem_cons_self ..)
    have hmul : (k + (rs.length + 1)) * n = k * n + n + rs.length * n := by rw [Nat.add_mul, Nat.add_mul]; omega
    simp only [List.length_cons] at h
    have hsz : k * n + r.length ≤ cells.size := by omega
    simp only [List.zipIdx_cons, List.map_cons, Instr.fill]
    rw [if_neg (by simp [Value.cells]; omega)]
    have hz : (r.toArray.zipIdx.foldl (fun (cs : Array Value) (x : Value × Nat) => cs.setIfInBounds (k * n + x.2) x.1) cells) = (cells.toList.take (k * n) ++ r ++ cells.toList.drop (k * n + r.length)).toArray := by
      have := foldl_seg r (k * n) 0 cells (by omega)
      simp only [Nat.add_zero] at this
      rw [← this]
      simp [Array.zipIdx, List.mapIdx_eq_zipIdx_map]
    have hz' : ((Value.agg r.toArray).cells.zipIdx.foldl (fun (cs : Array Value) (x : Value × Nat) => match x with | (c, j) => cs.setIfInBounds (k * n + j) c) cells) = (cells.toList.take (k * n) ++ r ++ cells.toList.drop (k * n + r.length)).toArray := hz
    rw [hz', fill_rows rs (k + 1) _ (fun x hx => h1 x (List.mem_cons_of_mem _ hx)) (by
      simp only [List.size_toArray, List.length_append, List.length_take, List.length_drop, Array.length_toList]
      rw [show k + 1 + rs.length = k + (rs.length + 1) from by omega]
      omega)]
    congr 2
    have ht : (cells.toList.take (k * n) ++ r ++ cells.toList.drop (k * n + r.length)).take ((k + 1) * n) = cells.toList.take (k * n) ++ r := by
      have hlen : (cells.toList.take (k * n) ++ r).length = (k + 1) * n := by simp [Nat.add_mul]; omega
      rw [← hlen, List.take_left]
    rw [ht, List.flatten_cons, List.append_assoc]

section
variable {P : Program} {ops : Array Oper} {rest : List Oper} {o : Oper} {a : Act} {Q : Exit → Act → World → Prop} {F : Nat → Prop} {w : World} {v : Value} {rows : List (List Value)} {t e : TypeId} {n bytes : Nat} {z : Value}
theorem run_nbuild (E : ElN P t e n bytes z) (rows : List (List Value)) (arr : Array (Nat × Value)) (harr : arr.toList = (rows.zipIdx 0).map fun p => (p.2, .agg p.1.toArray)) (hone : ∀ r ∈ rows, r.length = n) (m : Nat) (hn : m = rows.length) (hs : m * n ≤ 1000000) (w : World) :
    (Instr.buildSlice t m arr).run P w = .ok (.slice (some ⟨w.heap.size, 0, none⟩) m m) (w.alloc (.cells rows.flatten.toArray e)) := by
  subst hn
  obtain ⟨i0, hi0, hz, hsz, _⟩ := E.info
  have hu := E.hu
  have hf := fun (zs : Array Value) (hzs : rows.length * n = zs.size) => fill_rows rows 0 zs hone (by simpa using hzs)
  simp only [Nat.zero_mul, List.take_zero, List.nil_append] at hf
  unfold Instr.buildSlice
  by_cases h0 : rows.length * n = 0
  · have hb : ¬ 2 ^ 24 < rows.length * n := by omega
    simp only [Sem.run_bind, run_underlying hu, Result.andThen_ok, sizeOf, typeInfo]
    simp [hi0, hsz, h0]
    rw [harr, hf _ (by simp [h0])]
    simp [newRow]
  · have hb : ¬ 16777216 < rows.length * n := by omega
    simp [run_underlying hu, sizeOf, typeInfo, hi0, hsz, h0, hb, zeroValue, hz]
    rw [harr, hf _ (by simp)]
    simp [newRow]
/-- Records written out: the world and the slice under new names. -/
theorem w_nnew (E : ElN P t e n bytes z) {m : Nat} {ps : Array (Nat × Operand)} (rows : List (List Value)) (hgd : o.guard = none) (ho : o.op = .buildSlice t m ps) (hps : (ps.toList.map fun x => (x.1, a.eval x.2)) = (rows.zipIdx 0).map fun p => (p.2, .agg p.1.toArray))
    (hone : ∀ r ∈ rows, r.length = n) (hn : m = rows.length) (hs : m * n ≤ 1000000)
    (k : ∀ v' w' B, w.heap.size ≤ B → B ≤ w'.heap.size → Ext w w' → RowN (fun k => B ≤ k ∧ k < w'.heap.size) w' e n v' rows → wpList P ops Q rest (a.put o.dst v') w') : wpList P ops Q (o :: rest) a w := by
  refine wpList_plain hgd fun K hK => ?_
  have hr := run_nbuild (P := P) E rows (ps.map fun x => (x.1, a.eval x.2)) (by rw [Array.toList_map]; exact hps) hone m hn hs w
  have hfl := flat_len hone
  have hml : m ≤ m * n := Nat.le_mul_of_pos_right _ E.pos
  have hk := hK _ _ (k (.slice (some ⟨w.heap.size, 0, none⟩) m m) (w.alloc (.cells rows.flatten.toArray e)) w.heap.size (Nat.le_refl _) (by simp) ((Ext.refl w).alloc _) ⟨⟨hfl, .inr ⟨w.heap.size, m, rows.flatten.toArray, by rw [hn], Nat.zero_le _, heap_alloc_new w _, by omega, by unfold maxLen; omega, by rw [hn]; simpa using hfl, by rw [← hfl]; exact List.take_length⟩⟩, hone, fun j hj => by
    cases hj; exact ⟨Nat.le_refl _, by show w.heap.size < _; rw [nblk_alloc']; omega⟩⟩)
  unfold Oper.wp execOp
  simp only [ho]
  rw [show (Instr.buildSlice t m (ps.map fun (i, x) => (i, a.eval x))) = Instr.buildSlice t m (ps.map fun x => (x.1, a.eval x.2)) from rfl]
  simp only [Sem.run_bind, hr, Result.andThen_ok]
  exact hk
theorem slS_cells {s : Value} {ys : List (List Value)} (hs : SlS w s n ys) (hy : ys ≠ []) (hp : 0 < n) : ∃ ad c, s = .slice (some ad) ys.length c ∧ (∀ y ∈ ys, y.length = n) ∧ ∀ j u, ys.flatten[j]? = some u → w.cell? (ad.add j) = some u := by
  obtain ⟨A, c, rfl, h1, h2, h3⟩ := hs
  have heach : ∀ y ∈ ys, y.length = n := fun y hy => by
    obtain ⟨k, hk, rfl⟩ := List.getElem_of_mem hy
    exact (h3 k _ (List.getElem?_eq_getElem hk)).1
  have h0 : 0 < ys.length := List.length_pos_iff.2 hy
  obtain ⟨_, ad, rfl, _⟩ := h3 0 _ (List.getElem?_eq_getElem h0)
  refine ⟨ad, c, rfl, heach, fun j u hj => ?_⟩
  have hjl : j < ys.length * n := by have := (List.getElem?_eq_some_iff.1 hj).1; rwa [flat_len heach] at this
  have hq : j / n < ys.length := Nat.div_lt_of_lt_mul (by rwa [Nat.mul_comm] at hjl)
  obtain ⟨h5, ad', h6, h7⟩ := h3 (j / n) _ (List.getElem?_eq_getElem hq)
  cases h6
  have hr : j % n < (ys[j / n]).length := by rw [h5]; exact Nat.mod_lt _ hp
  have hdm : j / n * n + j % n = j := by rw [Nat.mul_comm]; exact Nat.div_add_mod j n
  have hfg := flat_get heach (j / n) (j % n) _ _ (List.getElem?_eq_getElem hq) (List.getElem?_eq_getElem hr)
  rw [hdm, hj] at hfg
  injection hfg with hfg
  have := h7 (j % n) _ (List.getElem?_eq_getElem hr)
  rw [add_add', hdm, ← hfg] at this
  exact this
theorem run_napp (E : ElN P t e n bytes z) (ty : TypeId) {s : Value} {ys : List (List Value)} (h : RowN F w e n v rows) (hs : SlS w s n ys) (hy : ys ≠ []) (h1 : ∀ y ∈ ys, ∀ u ∈ y, u.oneCell' = true) (hb : (rows.length + ys.length) * bytes ≤ 140737488355328) :
    ∃ v' w', (Builtin.append_ #[t, t] ty #[v, s]).run P w = .ok v' w' ∧ Mod F w w' ∧ RowN (grow F w w') w' e n v' (rows ++ ys) := by
  obtain ⟨i0, hi, hz, hsz, hby⟩ := E.info
  obtain ⟨ad, c, rfl, heach, hcells⟩ := slS_cells hs hy E.pos
  have hm : rows.length + ys.length ≤ maxLen := by
    have := Nat.le_mul_of_pos_right (rows.length + ys.length) E.bpos
    unfold maxLen; omega
  obtain ⟨v', w', hr, h2, h3, _, h5⟩ := run_append_own_at (P := P) w 0 t ty e i0 z n bytes E.hu hi hz hsz hby E.zs E.pos v rows.length rows.flatten h.own ad ys.length c ys.flatten (flat_len heach) hcells (fun u hu => by
    obtain ⟨y, hy1, hy2⟩ := List.mem_flatten.1 hu; exact h1 y hy1 u hy2) hm hb (Nat.zero_le _)
  have hmod : Mod F w w' := (Mod.grown h3).mono fun i _ hi => h.inF i hi
  rw [← List.flatten_append, ← List.length_append] at h2
  refine ⟨v', w', hr, hmod, h2, fun r hr => ?_, fun k hk => ?_⟩
  · rcases List.mem_append.1 hr with hr | hr
    · exact h.each r hr
    · exact heach r hr
  · have hlt := (h2.lt k hk).2
    rcases h5 with h5 | h5
    · exact .inl (h.inF k (by rw [← h5]; exact hk))
    · rw [h5] at hk; cases hk; exact .inr ⟨Nat.le_refl _, hlt⟩
/-- append(v, r..), v an owned slice of records -/
theorem w_napp (E : ElN P t e n bytes z) (x y : Operand) {s : Value} {ys : List (List Value)} (hgd : o.guard = none) (ho : o.op = .call { callee := .builtin .append, args := #[x, y], argTypes := #[t, t] }) (hv : a.eval x = v) (hy : a.eval y = s)
    (h : RowN F w e n v rows) (hs : SlS w s n ys) (hne : ys ≠ []) (h1 : ∀ y ∈ ys, ∀ u ∈ y, u.oneCell' = true) (hb : (rows.length + ys.length) * bytes ≤ 140737488355328)
    (k : ∀ v' w', Mod F w w' → RowN (grow F w w') w' e n v' (rows ++ ys) → wpList P ops Q rest (a.put o.dst v') w') : wpList P ops Q (o :: rest) a w := by
  refine wpList_plain hgd fun K hK => ?_
  obtain ⟨v', w', hr, h2, h3⟩ := run_napp E o.type h hs hne h1 hb
  unfold Oper.wp execOp
  simp only [ho, resolve, invoke, builtin, Sem.run_bind, Sem.run_pure, Result.andThen_ok, List.map_toArray, List.map_cons, List.map_nil, hv, hy, hr]
  exact hK _ _ (k v' w' h2 h3)
end
end Go.Proofs.Ytabbgnlabiakoaa
