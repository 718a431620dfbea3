/- A block of which each cell is told; slices cut out of it, and appended to within what it has room for. -/
import Derived.Test.YtkkbpmkeemfppaaFC
import Derived.Test.YtkkbpmkeemfppaaRowSt
import Derived.ArgAppend
namespace Go.Proofs.Ytkkbpmkeemfppaa
open Go.RowKit

/-- Block g holds just these cells. -/
def Blk (w : World) (g : Nat) (e : TypeId) (cs : List Value) : Prop := w.heap[g]? = some (.cells cs.toArray e (0, 0))
theorem Blk.lt {w : World} {g : Nat} {e : TypeId} {cs : List Value} (h : Blk w g e cs) : g < w.heap.size := (Array.getElem?_eq_some_iff.1 h).1
theorem Blk.ext {w w' : World} {g : Nat} {e : TypeId} {cs : List Value} (h : Blk w g e cs) (hx : Ext w w') : Blk w' g e cs := (hx.block g h.lt).trans h
theorem Blk.cell {w : World} {g : Nat} {e : TypeId} {cs : List Value} (h : Blk w g e cs) {i : Nat} {u : Value} (hi : cs[i]? = some u) : w.cell? ⟨g, i, none⟩ = some u := Fs.cell ⟨e, h⟩ hi
theorem Blk.frozen {w : World} {g : Nat} {e : TypeId} {cs : List Value} (h : Blk w g e cs) (i : Nat) : w.frozen? ⟨g, i, none⟩ = false := Fs.frozen ⟨e, h⟩ i
theorem Blk.set {w : World} {g : Nat} {e : TypeId} {cs : List Value} (h : Blk w g e cs) (i : Nat) (u : Value) : Blk (w.setCell ⟨g, i, none⟩ u) g e (cs.set i u) := by
  unfold Blk at h ⊢
  simp [World.setCell, Array.getElem?_modify, h]
theorem Blk.sets {g : Nat} {e : TypeId} : ∀ (us : List Value) (o : Nat) (w : World) (cs : List Value), Blk w g e cs → o + us.length ≤ cs.length → Blk (w.setCells g o us) g e (cs.take o ++ us ++ cs.drop (o + us.length))
  | [], o, w, cs, h, _ => by simpa [World.setCells] using h
  | u :: us, o, w, cs, h, hl => by
    simp only [List.length_cons] at hl
    have := Blk.sets us (o + 1) _ _ (h.set o u) (by simp; omega)
    rw [World.setCells]
    have e1 : (cs.set o u).take (o + 1) = cs.take o ++ [u] := by
      rw [List.take_set, List.take_succ_eq_append_getElem (by omega), List.set_append_right _ _ (by simp; omega)]
      have : o - (cs.take o).length = 0 := by simp; omega
      rw [this]; rfl
    have e2 : (cs.set o u).drop (o + 1 + us.length) = cs.drop (o + (us.length + 1)) := by
      rw [List.drop_set, if_pos (by omega), show o + 1 + us.length = o + (us.length + 1) from by omega]
    rw [e1, e2] at this
    rw [List.length_cons]
    simpa using this
theorem Blk.mod {F : Nat → Prop} {w w' : World} {g : Nat} {e : TypeId} {cs : List Value} (h : Blk w g e cs) (hm : Mod F w w') (hn : ¬ F g) : Blk w' g e cs := (hm.block g h.lt hn).trans h
theorem flat_take {n : Nat} : ∀ {rows : List (List Value)}, (∀ row ∈ rows, row.length = n) → ∀ i, rows.flatten.take (i * n) = (rows.take i).flatten
  | [], _, i => by simp
  | r :: rs, h, 0 => by simp
  | r :: rs, h, i + 1 => by
    have hr := h r (List.mem_cons_self ..)
    rw [List.flatten_cons, List.take_succ_cons, List.flatten_cons, Nat.add_mul, Nat.one_mul, Nat.add_comm, ← hr, List.take_length_add_append, hr, flat_take fun x hx => h x (List.mem_cons_of_mem _ hx)]
theorem flat_drop {n : Nat} : ∀ {rows : List (List Value)}, (∀ row ∈ rows, row.length = n) → ∀ i, rows.flatten.drop (i * n) = (rows.drop i).flatten
  | [], _, i => by simp
  | r :: rs, h, 0 => by simp
  | r :: rs, h, i + 1 => by
    have hr := h r (List.mem_cons_self ..)
    rw [List.flatten_cons, List.drop_succ_cons, Nat.add_mul, Nat.one_mul, Nat.add_comm, ← hr, List.drop_length_add_append, hr, flat_drop fun x hx => h x (List.mem_cons_of_mem _ hx)]
theorem mod_setCells (g : Nat) : ∀ (us : List Value) (o : Nat) (w : World), Mod (fun k => k = g) w (w.setCells g o us)
  | [], _, _ => Mod.refl _ _
  | u :: us, o, w => (Mod.setCell w ⟨g, o, none⟩ u).trans (mod_setCells g us (o + 1) _) fun _ _ h => h

section
variable {P : Program} {ops : Array Oper} {rest : List Oper} {o : Oper} {a : Act} {Q : Exit → Act → World → Prop} {w : World} {t e : TypeId} {n bytes : Nat} {z : Value}
theorem run_bound {j c : Nat} (code : BoundsCode) (h : j ≤ c) : (Instr.sliceBound (.int .i64 (j : Int)) c code).run P w = .ok j w := by
  simp [Instr.sliceBound, go_sem]; omega
theorem runs_slice {ρ : Operand → Value} (E : ElS P t e n) (x : Operand) (lo hi mx : Option Operand) {A : Option Addr} {len cap l h m : Nat} (ho : o.op = .slice t x lo hi mx) (hv : ρ x = .slice A len cap)
    (hb : (Instr.sliceBounds true len cap (lo.map ρ) (hi.map ρ) (mx.map ρ)).run P w = .ok (l, h, m) w) : Runs P o ρ w (.slice (if m = l then A else A.map (·.add (l * n))) (h - l) (m - l)) := by
  obtain ⟨i0, hi0, hsz⟩ := E.info
  have hu := E.hu
  unfold Runs execOp
  simp [ho, hv, Instr.sliceAt, Instr.slice, run_underlying hu, sizeOf, typeInfo, hi0, hsz, hb]
theorem bounds_to {len cap j : Nat} (h : j ≤ cap) : (Instr.sliceBounds true len cap none (some (.int .i64 (j : Int))) none).run P w = .ok (0, j, cap) w := by
  simp [Instr.sliceBounds, run_bound (P := P) (w := w) _ h]
theorem bounds_from {len cap j : Nat} (h : j ≤ len) : (Instr.sliceBounds true len cap (some (.int .i64 (j : Int))) none none).run P w = .ok (j, len, cap) w := by
  simp [Instr.sliceBounds, run_bound (P := P) (w := w) _ h]
theorem bounds_cut {len cap i j : Nat} (h : i ≤ j) (h2 : j ≤ cap) : (Instr.sliceBounds true len cap (some (.int .i64 (i : Int))) (some (.int .i64 (j : Int))) none).run P w = .ok (i, j, cap) w := by
  simp [Instr.sliceBounds, run_bound (P := P) (w := w) _ h, run_bound (P := P) (w := w) _ h2]
theorem bounds_all {len cap i j k : Nat} (h : i ≤ j) (h2 : j ≤ k) (h3 : k ≤ cap) : (Instr.sliceBounds true len cap (some (.int .i64 (i : Int))) (some (.int .i64 (j : Int))) (some (.int .i64 (k : Int)))).run P w = .ok (i, j, k) w := by
  simp [Instr.sliceBounds, run_bound (P := P) (w := w) _ h, run_bound (P := P) (w := w) _ h2, run_bound (P := P) (w := w) _ h3]
theorem runs_sto {ρ : Operand → Value} (E : ElS P t e n) (x y : Operand) {g len cap j : Nat} (ho : o.op = .slice t x none (some y) none) (hv : ρ x = .slice (some ⟨g, 0, none⟩) len cap) (hy : ρ y = .int .i64 (j : Int)) (h : j ≤ cap) : Runs P o ρ w (.slice (some ⟨g, 0, none⟩) j cap) := by
  have := runs_slice E x none (some y) none (l := 0) (h := j) (m := cap) ho hv (w := w) (by show (Instr.sliceBounds true len cap none (some (ρ y)) none).run _ _ = _; rw [hy]; exact bounds_to h)
  simpa [Addr.add_zero'] using this
theorem runs_sfrom {ρ : Operand → Value} (E : ElS P t e n) (x y : Operand) {A : Option Addr} {len cap j : Nat} {v : Value} (ho : o.op = .slice t x (some y) none none) (hv : ρ x = .slice A len cap) (hy : ρ y = .int .i64 (j : Int)) (h : j ≤ len) (hA : Value.slice (if cap = j then A else A.map (·.add (j * n))) (len - j) (cap - j) = v) : Runs P o ρ w v := by
  subst hA
  exact runs_slice E x (some y) none none (l := j) (h := len) (m := cap) ho hv (w := w) (by show (Instr.sliceBounds true len cap (some (ρ y)) none none).run _ _ = _; rw [hy]; exact bounds_from h)
/-- A slice expression. -/
theorem w_slice (E : ElS P t e n) (x : Operand) (lo hi mx : Option Operand) {A : Option Addr} {len cap l h m : Nat} (v : Value) (hgd : o.guard = none) (ho : o.op = .slice t x lo hi mx) (hv : a.eval x = .slice A len cap)
    (hb : (Instr.sliceBounds true len cap (lo.map a.eval) (hi.map a.eval) (mx.map a.eval)).run P w = .ok (l, h, m) w) (he : Value.slice (if m = l then A else A.map (·.add (l * n))) (h - l) (m - l) = v)
    (k : wpList P ops Q rest (a.put o.dst v) w) : wpList P ops Q (o :: rest) a w := by
  subst he
  exact wpList_runs hgd (runs_slice E x lo hi mx ho hv hb) k
/-- append(s[:i], s[j:]..) within what s has room for. -/
theorem w_appRoom (E : ElS P t e n) (x y : Operand) {g i m cap c : Nat} {A : Addr} {news cs : List Value} {e' : TypeId} (hgd : o.guard = none) (ho : o.op = .call { callee := .builtin .append, args := #[x, y], argTypes := #[t, t] }) (hv : a.eval x = .slice (some ⟨g, 0, none⟩) i cap) (hy : a.eval y = .slice (some A) m c)
    (hl : news.length = m * n) (hnews : ∀ j u, news[j]? = some u → w.cell? (A.add j) = some u) (h1 : ∀ u ∈ news, u.oneCell' = true) (hroom : i + m ≤ cap) (hB : Blk w g e' cs) (hsz : cap * n ≤ cs.length)
    (k : ∀ w', Mod (fun k => k = g) w w' → Blk w' g e' (cs.take (i * n) ++ news ++ cs.drop (i * n + news.length)) → wpList P ops Q rest (a.put o.dst (.slice (some ⟨g, 0, none⟩) (i + m) cap)) w') : wpList P ops Q (o :: rest) a w := by
  obtain ⟨i0, hi0, hsz0⟩ := E.info
  have hle : i * n + news.length ≤ cs.length := by
    rw [hl]
    have := Nat.mul_le_mul_right n hroom
    rw [Nat.add_mul] at this; omega
  refine wpList_plain hgd fun K hK => ?_
  have hr := run_append_room_cells (P := P) (w := w) t o.type e i0 E.hu hi0 g 0 i cap A m c news (by rw [hsz0]; exact hl) hnews h1 hroom (fun j hj => by
    rw [hsz0, Nat.zero_add, hB.cell (List.getElem?_eq_getElem (show i * n + j < cs.length from by omega))]; rfl) (fun j _ => hB.frozen _)
  rw [hsz0, Nat.zero_add] at hr
  have hk := hK _ _ (k _ (mod_setCells g news (i * n) w) (hB.sets news (i * n) w cs hle))
  unfold Oper.wp execOp
  simp [ho, resolve, invoke, builtin, hv, hy, hr, Result.andThen]
  exact hk
/-- clear(s) of one element -/
theorem w_clear1 (E : ElN P t e n bytes z) (x : Operand) {g off c : Nat} {cs : List Value} {e' : TypeId} (hgd : o.guard = none) (ho : o.op = .call { callee := .builtin .clear, args := #[x], argTypes := #[t] }) (hd : o.dst = none) (hv : a.eval x = .slice (some ⟨g, off, none⟩) 1 c)
    (h1 : ∀ u ∈ z.cells, u.oneCell' = true) (hB : Blk w g e' cs) (hsz : off + n ≤ cs.length)
    (k : ∀ w', Mod (fun k => k = g) w w' → Blk w' g e' (cs.take off ++ z.cells.toList ++ cs.drop (off + n)) → wpList P ops Q rest a w') : wpList P ops Q (o :: rest) a w := by
  obtain ⟨i0, hi0, hz0, hsz0, _⟩ := E.info
  have hzn := E.zs
  have hzc : (Builtin.zeroCells z.cells 1).toList = z.cells.toList := by
    apply List.ext_getElem
    · simp [Builtin.zeroCells]
    · intro i h1 h2
      simp [Builtin.zeroCells] at h1 h2 ⊢
      rw [Nat.mod_eq_of_lt h2, getElem!_pos _ i h2]
  have hst := run_storeCells_cells (P := P) g off z.cells.toList 0 w (fun j hj => by
    rw [Nat.add_zero, hB.cell (List.getElem?_eq_getElem (show off + j < cs.length from by simp [hzn] at hj; omega))]; rfl) (fun j _ => hB.frozen _) (fun u hu => h1 u (by simpa using hu))
  rw [Nat.add_zero] at hst
  refine wpList_plain hgd fun K hK => ?_
  have hu := E.hu
  have hlen : z.cells.toList.length = n := by simp [hzn]
  have hk := hK _ _ (k _ (mod_setCells g z.cells.toList off w) (by have := hB.sets z.cells.toList off w cs (by omega); rw [hlen] at this; exact this))
  unfold Oper.wp execOp
  simp [ho, hd, resolve, invoke, builtin, hv, Builtin.clear_, run_underlying hu, zeroValue, typeInfo, hi0, hz0, hzc, hst, Result.andThen, Act.put, Oper.upon]
  exact hk
end
end Go.Proofs.Ytkkbpmkeemfppaa
