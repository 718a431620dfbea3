/- v[i].f and v[i].f = u, where the call owns v, a slice of records of n one-cell fields. · A block of which each cell is told; slices cut out of it, and appended to within what it has room for. · Wishes: which blocks are wanted, how often each was asked for, whom is asked next. No program. · slices.Delete on a slice of wishes that the call owns: one of them taken out: the contract. · An owned row of records as one block. · Wishes in memory; which numbers are names; where one stands; whom is asked. · Wishes: one more; one that came; which there are. · A region that draws its order, whose first n operations only add memory and whose other operations wait for all of these and come up in one order (an append, a store): once through the first ones, in the order of the text, then the others. -/
import Derived.Test.YtajkjiegcmpjaaaFB
import Derived.Test.YtajkjiegcmpjaaaPk03
import Derived.ArgAppend
import Derived.Test.YtajkjiegcmpjaaaBKA
import Derived.StillTailTactics
import Derived.Test.YtajkjiegcmpjaaaFA
namespace Go.Proofs.Ytajkjiegcmpjaaa
set_option maxRecDepth 100000
open Go.RowKit
theorem addr_add_off (g i j : Nat) : (⟨g, i, none⟩ : Addr).add j = ⟨g, i + j, none⟩ := by
  unfold Addr.add; split <;> simp_all
theorem flat_set {n : Nat} : ∀ {rows : List (List Value)}, (∀ row ∈ rows, row.length = n) → ∀ (i j : Nat) (u : Value) (hi : i < rows.length), j < n → (rows.set i (rows[i].set j u)).flatten = rows.flatten.set (i * n + j) u
  | [], _, i, j, u, hi, _ => by simp at hi
  | r :: rs, h, 0, j, u, _, hj => by
    have hr := h r (List.mem_cons_self ..)
    simp only [List.set_cons_zero, List.getElem_cons_zero, List.flatten_cons, Nat.zero_mul, Nat.zero_add]
    rw [List.set_append_left _ _ (by omega)]
  | r :: rs, h, i + 1, j, u, hi, hj => by
    have hr := h r (List.mem_cons_self ..)
    simp only [List.set_cons_succ, List.getElem_cons_succ, List.flatten_cons]
    rw [flat_set (fun x hx => h x (List.mem_cons_of_mem _ hx)) i j u (by simpa using hi) hj, List.set_append_right _ _ (by rw [hr, Nat.add_mul]; omega), hr, show (i + 1) * n + j - n = i * n + j from by rw [Nat.add_mul]; omega]
section
variable {P : Program} {ops : Array Oper} {rest : List Oper} {o : Oper} {a : Act} {Q : Exit → Act → World → Prop} {F : Nat → Prop} {w : World} {v : Value} {rows : List (List Value)} {t e : TypeId} {n : Nat}
theorem rowN_at (h : RowN F w e n v rows) {i : Nat} (hi : i < rows.length) : ∃ g cap, v = .slice (some ⟨g, 0, none⟩) rows.length cap ∧ RowAt w ⟨g, i * n, none⟩ rows[i] ∧ ∀ j, w.frozen? ⟨g, i * n + j, none⟩ = false ∧
    ∀ u, j < n → (w.setCell ⟨g, i * n + j, none⟩ u).ownsRow 0 e n v rows.length (rows.flatten.set (i * n + j) u) := by
  have h' := h.own
  obtain ⟨hl, hn | ⟨g, cap, cur, hv, hb, hg, h1, h2, hs, ht⟩⟩ := h.own
  · obtain ⟨_, h0⟩ := hn; omega
  · refine ⟨g, cap, hv, fun j u hj => ?_, fun j => ⟨?_, fun u hj => ?_⟩⟩
    · rw [addr_add_off]
      have := h'.cells (g := g) (by rw [hv]; rfl) (i * n + j) u (flat_get h.each i j _ u (List.getElem?_eq_getElem hi) hj)
      rw [add_zero_off] at this; exact this
    · unfold World.frozen?; rw [hg]; simp
    · have hlt : i * n + j < rows.length * n := by
        have : (i + 1) * n ≤ rows.length * n := Nat.mul_le_mul_right n hi
        rw [Nat.add_mul] at this; omega
      refine ⟨by simpa using hl, .inr ⟨g, cap, cur.setIfInBounds (i * n + j) u, hv, hb, ?_, h1, h2, by simpa using hs, ?_⟩⟩
      · simp [World.setCell, Array.getElem?_modify, hg]
      · rw [Array.toList_setIfInBounds, List.take_set, ht]
theorem w_nidx (E : ElS P t e n) (x y : Operand) {i : Nat} (hgd : o.guard = none) (ho : o.op = .indexAddr t x y) (hv : a.eval x = v) (hy : a.eval y = .int .i64 i) (h : RowN F w e n v rows) (hi : i < rows.length)
    (k : ∀ g, v.ownBlock = some g → RowAt w ⟨g, i * n, none⟩ rows[i] → wpList P ops Q rest (a.put o.dst (.pointer (some ⟨g, i * n, none⟩))) w) : wpList P ops Q (o :: rest) a w := by
  obtain ⟨g, cap, hv', hr, _⟩ := rowN_at h hi
  obtain ⟨i0, hi0, hsz⟩ := E.info
  have hu := E.hu
  have key : ∀ ρ : Operand → Value, ρ x = .slice (some ⟨g, 0, none⟩) rows.length cap → ρ y = .int .i64 i → Runs P o ρ w (.pointer (some ⟨g, i * n, none⟩)) := fun ρ hv hy => by
    unfold Runs execOp
    simp [ho, hv, hy, Instr.indexAt, run_underlying hu, sizeOf, typeInfo, hi0, hsz, go_sem, hi]
  exact wpList_runs hgd (key _ (hv.trans hv') hy) (k g (by rw [hv']; rfl) hr)
theorem w_nstore {ty : TypeId} (x y : Operand) {u : Value} {g i j : Nat} (hgd : o.guard = none) (ho : o.op = .store ty x y) (hd : o.dst = none) (hx : a.eval x = .pointer (some ((⟨g, i * n, none⟩ : Addr).add j))) (hy : a.eval y = u) (h1 : u.oneCell' = true)
    (hs : (P.info? ty).map (·.size) = some 1) (h : RowN F w e n v rows) (hg : v.ownBlock = some g) (hi : i < rows.length) (hj : j < n)
    (k : ∀ w', Mod (fun k => k = g) w w' → RowN F w' e n v (rows.set i (rows[i].set j u)) → wpList P ops Q rest a w') : wpList P ops Q (o :: rest) a w := by
  obtain ⟨g', cap, hv', hr, hrest⟩ := rowN_at h hi
  obtain rfl : g' = g := by rw [hv'] at hg; simpa [Value.ownBlock] using hg
  obtain ⟨hf, hset⟩ := hrest j
  have hrl := h.each _ (List.getElem_mem hi)
  have hc := hr j _ (List.getElem?_eq_getElem (by omega))
  rw [addr_add_off] at hx hc
  cases hq : P.info? ty with
  | none => rw [hq] at hs; simp at hs
  | some i0 =>
    have hsz : i0.size = 1 := by simpa [hq] using hs
    refine wpList_plain hgd fun K hK => ?_
    have hr := run_store_one (P := P) hq hsz (oneCell_cells h1) h1 hc hf
    have hk := hK _ _ (k _ (Mod.setCell w ⟨g', i * n + j, none⟩ u) ⟨?_, ?_, h.inF⟩)
    · unfold Oper.wp execOp
      exact z45z
    · rw [List.length_set, flat_set h.each i j u hi hj]; exact hset u hj
    · intro row hrow
      rcases List.mem_or_eq_of_mem_set hrow with hm | rfl
      · exact h.each row hm
      · rw [List.length_set]; exact hrl
end
end Go.Proofs.Ytajkjiegcmpjaaa
namespace Go.Proofs.Ytajkjiegcmpjaaa
set_option maxRecDepth 100000
open Go.RowKit
def Blk (w : World) (g : Nat) (e : TypeId) (cs : List Value) : Prop := w.heap[g]? = some (.cells cs.toArray e (0, 0))
theorem Blk.lt {w : World} {g : Nat} {e : TypeId} {cs : List Value} (h : Blk w g e cs) : g < w.heap.size := (Array.getElem?_eq_some_iff.1 h).1
theorem Blk.ext {w w' : World} {g : Nat} {e : TypeId} {cs : List Value} (h : Blk w g e cs) (hx : Ext w w') : Blk w' g e cs := (hx.block g h.lt).trans h
theorem Blk.cell {w : World} {g : Nat} {e : TypeId} {cs : List Value} (h : Blk w g e cs) {i : Nat} {u : Value} (hi : cs[i]? = some u) : w.cell? ⟨g, i, none⟩ = some u := Fs.cell ⟨e, h⟩ hi
theorem Blk.frozen {w : World} {g : Nat} {e : TypeId} {cs : List Value} (h : Blk w g e cs) (i : Nat) : w.frozen? ⟨g, i, none⟩ = false := Fs.frozen ⟨e, h⟩ i
theorem Blk.set {w : World} {g : Nat} {e : TypeId} {cs : List Value} (h : Blk w g e cs) (i : Nat) (u : Value) : Blk (w.setCell ⟨g, i, none⟩ u) g e (cs.set i u) := by
  unfold Blk at h ⊢
  simp [World.setCell, Array.getElem?_modify, h]
theorem Blk.sets {g : Nat} {e : TypeId} : ∀ (us : List Value) (o : Nat) (w : World) (cs : List Value), Blk w g e cs → o + us.length ≤ cs.length → Blk (w.setCells g o us) g e (cs.take o ++ us ++ cs.drop (o + us.length))
  | [], o, w, cs, h, _ => by simpa [World.setCells] using h
  | u :: us, o, w, cs, h, hl => by
    simp only [List.length_cons] at hl
    have := Blk.sets us (o + 1) _ _ (h.set o u) (by simp; omega)
    rw [World.setCells]
    have e1 : (cs.set o u).take (o + 1) = cs.take o ++ [u] := by
      rw [List.take_set, List.take_succ_eq_append_getElem (by omega), List.set_append_right _ _ (by simp; omega)]
      have : o - (cs.take o).length = 0 := by simp; omega
      rw [this]; rfl
    have e2 : (cs.set o u).drop (o + 1 + us.length) = cs.drop (o + (us.length + 1)) := by
      rw [List.drop_set, if_pos (by omega), show o + 1 + us.length = o + (us.length + 1) from by omega]
    rw [e1, e2] at this
    rw [List.length_cons]
    simpa using this
theorem Blk.mod {F : Nat → Prop} {w w' : World} {g : Nat} {e : TypeId} {cs : List Value} (h : Blk w g e cs) (hm : Mod F w w') (hn : ¬ F g) : Blk w' g e cs := (hm.block g h.lt hn).trans h
theorem flat_take {n : Nat} : ∀ {rows : List (List Value)}, (∀ row ∈ rows, row.length = n) → ∀ i, rows.flatten.take (i * n) = (rows.take i).flatten
  | [], _, i => by simp
  | r :: rs, h, 0 => by simp
  | r :: rs, h, i + 1 => by
    have hr := h r (List.mem_cons_self ..)
    rw [List.flatten_cons, List.take_succ_cons, List.flatten_cons, Nat.add_mul, Nat.one_mul, Nat.add_comm, ← hr, List.take_length_add_append, hr, flat_take fun x hx => h x (List.mem_cons_of_mem _ hx)]
theorem flat_drop {n : Nat} : ∀ {rows : List (List Value)}, (∀ row ∈ rows, row.length = n) → ∀ i, rows.flatten.drop (i * n) = (rows.drop i).flatten
  | [], _, i => by simp
  | r :: rs, h, 0 => by simp
  | r :: rs, h, i + 1 => by
    have hr := h r (List.mem_cons_self ..)
    rw [List.flatten_cons, List.drop_succ_cons, Nat.add_mul, Nat.one_mul, Nat.add_comm, ← hr, List.drop_length_add_append, hr, flat_drop fun x hx => h x (List.mem_cons_of_mem _ hx)]
theorem mod_setCells (g : Nat) : ∀ (us : List Value) (o : Nat) (w : World), Mod (fun k => k = g) w (w.setCells g o us)
  | [], _, _ => Mod.refl _ _
  | u :: us, o, w => (Mod.setCell w ⟨g, o, none⟩ u).trans (mod_setCells g us (o + 1) _) fun _ _ h => h
section
variable {P : Program} {ops : Array Oper} {rest : List Oper} {o : Oper} {a : Act} {Q : Exit → Act → World → Prop} {w : World} {t e : TypeId} {n bytes : Nat} {z : Value}
theorem run_bound {j c : Nat} (code : BoundsCode) (h : j ≤ c) : (Instr.sliceBound (.int .i64 (j : Int)) c code).run P w = .ok j w := by
  simp [Instr.sliceBound, go_sem]; omega
theorem runs_slice {ρ : Operand → Value} (E : ElS P t e n) (x : Operand) (lo hi mx : Option Operand) {A : Option Addr} {len cap l h m : Nat} (ho : o.op = .slice t x lo hi mx) (hv : ρ x = .slice A len cap)
    (hb : (Instr.sliceBounds true len cap (lo.map ρ) (hi.map ρ) (mx.map ρ)).run P w = .ok (l, h, m) w) : Runs P o ρ w (.slice (if m = l then A else A.map (·.add (l * n))) (h - l) (m - l)) := by
  obtain ⟨i0, hi0, hsz⟩ := E.info
  have hu := E.hu
  unfold Runs execOp
  simp [ho, hv, Instr.sliceAt, Instr.slice, run_underlying hu, sizeOf, typeInfo, hi0, hsz, hb]
theorem bounds_to {len cap j : Nat} (h : j ≤ cap) : (Instr.sliceBounds true len cap none (some (.int .i64 (j : Int))) none).run P w = .ok (0, j, cap) w := by
  simp [Instr.sliceBounds, run_bound (P := P) (w := w) _ h]
theorem bounds_from {len cap j : Nat} (h : j ≤ len) : (Instr.sliceBounds true len cap (some (.int .i64 (j : Int))) none none).run P w = .ok (j, len, cap) w := by
  simp [Instr.sliceBounds, run_bound (P := P) (w := w) _ h]
theorem bounds_cut {len cap i j : Nat} (h : i ≤ j) (h2 : j ≤ cap) : (Instr.sliceBounds true len cap (some (.int .i64 (i : Int))) (some (.int .i64 (j : Int))) none).run P w = .ok (i, j, cap) w := by
  simp [Instr.sliceBounds, run_bound (P := P) (w := w) _ h, run_bound (P := P) (w := w) _ h2]
theorem bounds_all {len cap i j k : Nat} (h : i ≤ j) (h2 : j ≤ k) (h3 : k ≤ cap) : (Instr.sliceBounds true len cap (some (.int .i64 (i : Int))) (some (.int .i64 (j : Int))) (some (.int .i64 (k : Int)))).run P w = .ok (i, j, k) w := by
  simp [Instr.sliceBounds, run_bound (P := P) (w := w) _ h, run_bound (P := P) (w := w) _ h2, run_bound (P := P) (w := w) _ h3]
theorem runs_sto {ρ : Operand → Value} (E : ElS P t e n) (x y : Operand) {g len cap j : Nat} (ho : o.op = .slice t x none (some y) none) (hv : ρ x = .slice (some ⟨g, 0, none⟩) len cap) (hy : ρ y = .int .i64 (j : Int)) (h : j ≤ cap) : Runs P o ρ w (.slice (some ⟨g, 0, none⟩) j cap) := by
  have := runs_slice E x none (some y) none (l := 0) (h := j) (m := cap) ho hv (w := w) (by show (Instr.sliceBounds true len cap none (some (ρ y)) none).run _ _ = _; rw [hy]; exact bounds_to h)
  simpa [Addr.add_zero'] using this
theorem runs_sfrom {ρ : Operand → Value} (E : ElS P t e n) (x y : Operand) {A : Option Addr} {len cap j : Nat} {v : Value} (ho : o.op = .slice t x (some y) none none) (hv : ρ x = .slice A len cap) (hy : ρ y = .int .i64 (j : Int)) (h : j ≤ len) (hA : Value.slice (if cap = j then A else A.map (·.add (j * n))) (len - j) (cap - j) = v) : Runs P o ρ w v := by
  subst hA
  exact runs_slice E x (some y) none none (l := j) (h := len) (m := cap) ho hv (w := w) (by show (Instr.sliceBounds true len cap (some (ρ y)) none none).run _ _ = _; rw [hy]; exact bounds_from h)
theorem w_slice (E : ElS P t e n) (x : Operand) (lo hi mx : Option Operand) {A : Option Addr} {len cap l h m : Nat} (v : Value) (hgd : o.guard = none) (ho : o.op = .slice t x lo hi mx) (hv : a.eval x = .slice A len cap)
    (hb : (Instr.sliceBounds true len cap (lo.map a.eval) (hi.map a.eval) (mx.map a.eval)).run P w = .ok (l, h, m) w) (he : Value.slice (if m = l then A else A.map (·.add (l * n))) (h - l) (m - l) = v)
    (k : wpList P ops Q rest (a.put o.dst v) w) : wpList P ops Q (o :: rest) a w := by
  subst he
  exact wpList_runs hgd (runs_slice E x lo hi mx ho hv hb) k
theorem w_appRoom (E : ElS P t e n) (x y : Operand) {g i m cap c : Nat} {A : Addr} {news cs : List Value} {e' : TypeId} (hgd : o.guard = none) (ho : o.op = .call { callee := .builtin .append, args := #[x, y], argTypes := #[t, t] }) (hv : a.eval x = .slice (some ⟨g, 0, none⟩) i cap) (hy : a.eval y = .slice (some A) m c)
    (hl : news.length = m * n) (hnews : ∀ j u, news[j]? = some u → w.cell? (A.add j) = some u) (h1 : ∀ u ∈ news, u.oneCell' = true) (hroom : i + m ≤ cap) (hB : Blk w g e' cs) (hsz : cap * n ≤ cs.length)
    (k : ∀ w', Mod (fun k => k = g) w w' → Blk w' g e' (cs.take (i * n) ++ news ++ cs.drop (i * n + news.length)) → wpList P ops Q rest (a.put o.dst (.slice (some ⟨g, 0, none⟩) (i + m) cap)) w') : wpList P ops Q (o :: rest) a w := by
  obtain ⟨i0, hi0, hsz0⟩ := E.info
  have hle : i * n + news.length ≤ cs.length := by
    rw [hl]
    have := Nat.mul_le_mul_right n hroom
    rw [Nat.add_mul] at this; omega
  refine wpList_plain hgd fun K hK => ?_
  have hr := run_append_room_cells (P := P) (w := w) t o.type e i0 E.hu hi0 g 0 i cap A m c news (by rw [hsz0]; exact hl) hnews h1 hroom (fun j hj => by
    rw [hsz0, Nat.zero_add, hB.cell (List.getElem?_eq_getElem (show i * n + j < cs.length from by omega))]; rfl) (fun j _ => hB.frozen _)
  rw [hsz0, Nat.zero_add] at hr
  have hk := hK _ _ (k _ (mod_setCells g news (i * n) w) (hB.sets news (i * n) w cs hle))
  unfold Oper.wp execOp
  simp [ho, resolve, invoke, builtin, hv, hy, hr, Result.andThen]
  exact hk
theorem w_clear1 (E : ElN P t e n bytes z) (x : Operand) {g off c : Nat} {cs : List Value} {e' : TypeId} (hgd : o.guard = none) (ho : o.op = .call { callee := .builtin .clear, args := #[x], argTypes := #[t] }) (hd : o.dst = none) (hv : a.eval x = .slice (some ⟨g, off, none⟩) 1 c)
    (h1 : ∀ u ∈ z.cells, u.oneCell' = true) (hB : Blk w g e' cs) (hsz : off + n ≤ cs.length)
    (k : ∀ w', Mod (fun k => k = g) w w' → Blk w' g e' (cs.take off ++ z.cells.toList ++ cs.drop (off + n)) → wpList P ops Q rest a w') : wpList P ops Q (o :: rest) a w := by
  obtain ⟨i0, hi0, hz0, hsz0, _⟩ := E.info
  have hzn := E.zs
  have hzc : (Builtin.zeroCells z.cells 1).toList = z.cells.toList := by
    apply List.ext_getElem
    · simp [Builtin.zeroCells]
    · intro i h1 h2
      simp [Builtin.zeroCells] at h1 h2 ⊢
      rw [Nat.mod_eq_of_lt h2, getElem!_pos _ i h2]
  have hst := run_storeCells_cells (P := P) g off z.cells.toList 0 w (fun j hj => by
    rw [Nat.add_zero, hB.cell (List.getElem?_eq_getElem (show off + j < cs.length from by simp [hzn] at hj; omega))]; rfl) (fun j _ => hB.frozen _) (fun u hu => h1 u (by simpa using hu))
  rw [Nat.add_zero] at hst
  refine wpList_plain hgd fun K hK => ?_
  have hu := E.hu
  have hlen : z.cells.toList.length = n := by simp [hzn]
  have hk := hK _ _ (k _ (mod_setCells g z.cells.toList off w) (by have := hB.sets z.cells.toList off w cs (by omega); rw [hlen] at this; exact this))
  unfold Oper.wp execOp
  simp [ho, hd, resolve, invoke, builtin, hv, Builtin.clear_, run_underlying hu, zeroValue, typeInfo, hi0, hz0, hzc, hst, Result.andThen, Act.put, Oper.upon]
  exact hk
end
end Go.Proofs.Ytajkjiegcmpjaaa
namespace Go.Proofs.Ytajkjiegcmpjaaa
set_option maxRecDepth 100000
structure WtD where
  nm : Int
  ak : Int
def WtD.row (x : WtD) : List Value := [.int .i64 x.nm, .int .i64 x.ak]
namespace Fe
def has (l : List WtD) (n : Int) : Bool := l.any fun x => x.nm == n
def can (l : List WtD) (n : Int) : Bool := decide (NmOk n) && (!has l n && decide (l.length < 32))
def want (l : List WtD) (n : Int) : List WtD := if can l n = true then l ++ [⟨n, 0⟩] else l
def got (l : List WtD) (n : Int) : List WtD := l.filter fun x => !(x.nm == n)
def peer (me nd k : Int) : Int := (me + 1 + k % (nd - 1)) % nd
def ask1 (me nd : Int) (x : WtD) : Int × Int := (peer me nd x.ak, x.nm)
def asks (me nd : Int) (l : List WtD) : List (Int × Int) := if nd ≤ 1 then [] else (l.take 8).map (ask1 me nd)
def up (x : WtD) : WtD := ⟨x.nm, x.ak + 1⟩
def tick (nd : Int) (l : List WtD) : List WtD := if nd ≤ 1 then l else (l.take 8).map up ++ l.drop 8
structure Ok (b : Nat) (l : List WtD) : Prop where
  few : l.length ≤ 32
  uq : (l.map (·.nm)).Nodup
  nm : ∀ x ∈ l, NmOk x.nm
  ak : ∀ x ∈ l, 0 ≤ x.ak ∧ x.ak ≤ b
theorem Ok.nil (b : Nat) : Ok b [] := ⟨by simp, by simp, fun _ h => by simp at h, fun _ h => by simp at h⟩
theorem Ok.mono {b c : Nat} {l : List WtD} (h : Ok b l) (hb : b ≤ c) : Ok c l := ⟨h.few, h.uq, h.nm, fun x hx => ⟨(h.ak x hx).1, by have := (h.ak x hx).2; omega⟩⟩
theorem has_iff {l : List WtD} {n : Int} : has l n = true ↔ n ∈ l.map (·.nm) := by
  unfold has; simp [List.any_eq_true]
theorem has_no {l : List WtD} {n : Int} : has l n = false ↔ n ∉ l.map (·.nm) := by
  rw [← has_iff]; simp
theorem can_iff {l : List WtD} {n : Int} : can l n = true ↔ NmOk n ∧ n ∉ l.map (·.nm) ∧ l.length < 32 := by
  unfold can; rw [Bool.and_eq_true, Bool.and_eq_true, decide_eq_true_eq, decide_eq_true_eq, Bool.not_eq_true', has_no]
theorem Ok.want {b : Nat} {l : List WtD} (h : Ok b l) (n : Int) : Ok b (want l n) := by
  unfold Fe.want
  split
  · next hc =>
    obtain ⟨h1, h2, h3⟩ := can_iff.1 hc
    refine ⟨by simp; omega, ?_, ?_, ?_⟩
    · rw [List.map_append, List.nodup_append]
      refine ⟨h.uq, by simp, ?_⟩
      intro a ha b hb e
      simp at hb
      subst hb; subst e; exact h2 ha
    · intro x hx
      rcases List.mem_append.1 hx with hx | hx
      · exact h.nm x hx
      · simp at hx; subst hx; exact h1
    · intro x hx
      rcases List.mem_append.1 hx with hx | hx
      · exact h.ak x hx
      · simp at hx; subst hx; exact ⟨Int.le_refl 0, by show (0 : Int) ≤ b; omega⟩
  · exact h
theorem Ok.got {b : Nat} {l : List WtD} (h : Ok b l) (n : Int) : Ok b (got l n) :=
  ⟨Nat.le_trans (List.length_filter_le _ _) h.few, List.Nodup.sublist (List.Sublist.map _ List.filter_sublist) h.uq, fun x hx => h.nm x (List.mem_filter.1 hx).1, fun x hx => h.ak x (List.mem_filter.1 hx).1⟩
theorem tick_names (nd : Int) (l : List WtD) : (tick nd l).map (·.nm) = l.map (·.nm) := by
  unfold tick
  split
  · rfl
  · rw [List.map_append, List.map_map, show ((fun x : WtD => x.nm) ∘ up) = fun x => x.nm from rfl, ← List.map_append, List.take_append_drop]
theorem tick_len (nd : Int) (l : List WtD) : (tick nd l).length = l.length := by
  have := congrArg List.length (tick_names nd l)
  simpa using this
theorem Ok.tick {b : Nat} {l : List WtD} (h : Ok b l) (nd : Int) : Ok (b + 1) (tick nd l) := by
  refine ⟨by rw [tick_len]; exact h.few, by rw [tick_names]; exact h.uq, ?_, ?_⟩
  · intro x hx
    have h1 : x.nm ∈ (Fe.tick nd l).map (·.nm) := List.mem_map_of_mem hx
    rw [tick_names] at h1
    obtain ⟨y, hy, he⟩ := List.mem_map.1 h1
    rw [← he]; exact h.nm y hy
  · intro x hx
    unfold Fe.tick at hx
    split at hx
    · have := h.ak x hx; omega
    · rcases List.mem_append.1 hx with hx | hx
      · obtain ⟨y, hy, rfl⟩ := List.mem_map.1 hx
        have := h.ak y (List.mem_of_mem_take hy)
        show 0 ≤ y.ak + 1 ∧ y.ak + 1 ≤ ((b + 1 : Nat) : Int)
        omega
      · have := h.ak x (List.mem_of_mem_drop hx); omega
def First (l : List WtD) (n : Int) (r : Int) : Prop := (r = -1 ∧ has l n = false) ∨ ∃ (i : Nat) (x : WtD), r = (i : Int) ∧ l[i]? = some x ∧ x.nm = n ∧ has (l.take i) n = false
theorem First.any {l : List WtD} {n r : Int} (h : First l n r) : decide (0 ≤ r) = has l n := by
  rcases h with ⟨rfl, h⟩ | ⟨i, x, rfl, hx, hn, _⟩
  · rw [h]; rfl
  · rw [decide_eq_true (by omega)]
    exact (has_iff.2 (hn ▸ List.mem_map_of_mem (List.mem_of_getElem? hx))).symm
theorem got_no {l : List WtD} {n : Int} (h : has l n = false) : got l n = l := by
  unfold got
  rw [List.filter_eq_self]
  intro x hx
  rw [has_no] at h
  have : ¬ x.nm = n := fun e => h (e ▸ List.mem_map_of_mem hx)
  simpa using this
theorem got_at {l : List WtD} {n : Int} (hu : (l.map (·.nm)).Nodup) {i : Nat} {x : WtD} (hx : l[i]? = some x) (hn : x.nm = n) : got l n = l.eraseIdx i := by
  induction l generalizing i with
  | nil => simp at hx
  | cons y l ih =>
    rw [List.map_cons, List.nodup_cons] at hu
    cases i with
    | zero =>
      simp only [List.getElem?_cons_zero, Option.some.injEq] at hx
      subst hx
      rw [List.eraseIdx_zero, List.tail_cons]
      unfold got
      rw [List.filter_cons_of_neg (by simp [hn])]
      exact got_no (has_no.2 (hn ▸ hu.1))
    | succ i =>
      rw [List.getElem?_cons_succ] at hx
      have h1 : ¬ y.nm = n := fun e => hu.1 (by rw [e, ← hn]; exact List.mem_map_of_mem (List.mem_of_getElem? hx))
      rw [List.eraseIdx_cons_succ, ← ih hu.2 hx]
      unfold got
      rw [List.filter_cons_of_pos (by simpa using h1)]
theorem has_take {l : List WtD} {n : Int} {i : Nat} {x : WtD} (hx : l[i]? = some x) : has (l.take (i + 1)) n = (has (l.take i) n || (x.nm == n)) := by
  unfold has; rw [List.take_add_one, hx]; simp
end Fe
end Go.Proofs.Ytajkjiegcmpjaaa
namespace Go.Proofs.Ytajkjiegcmpjaaa
set_option maxHeartbeats 3200000
set_option maxRecDepth 100000
open Go.RowKit
theorem Try.enWt : ElN Try.prog 77 82 2 16 (.agg #[.int .i64 0, .int .i64 0]) := ElN.of Try.underlying77 (by kernel_rfl) rfl (by decide) (by decide)
theorem Try.elWt : ElS Try.prog 77 82 2 := Try.enWt.elS
theorem Try.stWt : St Try.prog 82 2 [.int .i64 0, .int .i64 0] := St.of (by kernel_rfl) (by kernel_rfl) rfl
theorem zWt1 : ∀ u ∈ (Value.agg #[.int .i64 0, .int .i64 0]).cells, u.oneCell' = true := by
  intro u hu
  have : u ∈ #[Value.int .i64 0, .int .i64 0] := hu
  simp at this
  rcases this with rfl | rfl <;> rfl
theorem Delete_wt {w : World} {g n cap i : Nat} {b : Int} {cs : List Value} (hB0 : Blk w g 82 cs) (hsz0 : cs.length = cap * 2) (hi0 : i < n) (hn : n ≤ 100) (hnc : n ≤ cap) (hb : b = ((i + 1 : Nat) : Int)) (h10 : ∀ u ∈ cs.take (n * 2), u.oneCell' = true) :
    Calls Try.prog 35 #[.slice (some ⟨g, 0, none⟩) n cap, .int .i64 (i : Nat), .int .i64 b] w fun e w' => e = .returned (.slice (some ⟨g, 0, none⟩) (n - 1) cap) ∧ Mod (fun k => k = g) w w' ∧
      ∃ cs', Blk w' g 82 cs' ∧ cs'.length = cap * 2 ∧ cs'.take ((n - 1) * 2) = cs.take (i * 2) ++ (cs.drop ((i + 1) * 2)).take ((n - (i + 1)) * 2) := by
  refine z2cz ?_
  subst hb
  obtain ⟨j, hj⟩ : ∃ j, j = i + 1 := ⟨_, rfl⟩
  rw [← hj]
  obtain ⟨r, hr⟩ : ∃ r, r = n - 1 := ⟨_, rfl⟩
  rw [← hr]
  have hB := hide_ hB0
  have hg := hB0.lt
  have t1 : ((i : Int) == (j : Int)) = false := by rw [beq_eq_false_iff_ne]; omega
  have hij := hide_ (show i ≤ j from by omega)
  have hjn := hide_ (show j ≤ n from by omega)
  have hic := hide_ (show i ≤ cap from by omega)
  have hnc' := hide_ hnc
  have hr1 := hide_ (show i + (n - j) = r from by omega)
  have hrn := hide_ (show r ≤ n from by omega)
  obtain ⟨news, hnews⟩ : ∃ news, news = (cs.drop (j * 2)).take ((n - j) * 2) := ⟨_, rfl⟩
  have hnl0 : news.length = (n - j) * 2 := by rw [hnews, List.length_take, List.length_drop]; omega
  have hnl := hide_ hnl0
  obtain ⟨A, hA0, hsrc0⟩ : ∃ A : Addr, (Value.slice (if cap = j then some (⟨g, 0, none⟩ : Addr) else (some (⟨g, 0, none⟩ : Addr)).map (·.add (j * 2))) (n - j) (cap - j) = .slice (some A) (n - j) (cap - j)) ∧ ∀ w', Blk w' g 82 cs → ∀ q u, news[q]? = some u → w'.cell? (A.add q) = some u := by
    by_cases h : cap = j
    · refine ⟨⟨g, 0, none⟩, by rw [if_pos h], fun w' _ q u hq => ?_⟩
      have : news = [] := List.eq_nil_of_length_eq_zero (by omega)
      rw [this] at hq; simp at hq
    · refine ⟨⟨g, j * 2, none⟩, by rw [if_neg h]; simp only [Option.map_some, addr_add_off, Nat.zero_add], fun w' hw q u hq => ?_⟩
      rw [addr_add_off]
      refine hw.cell ?_
      have hql := (List.getElem?_eq_some_iff.1 hq).1
      rw [hnews, List.getElem?_take_of_lt (by omega), List.getElem?_drop] at hq
      exact hq
  have hA := hide_ hA0
  have hsrc := hide_ hsrc0
  have h1 := hide_ (show ∀ u ∈ news, u.oneCell' = true from fun u hu => by
    rw [hnews] at hu
    obtain ⟨q, hq, rfl⟩ := List.getElem_of_mem hu
    refine h10 _ ?_
    rw [List.getElem_take, List.getElem_drop]
    simp at hq
    have hlt : j * 2 + q < (cs.take (n * 2)).length := by rw [List.length_take]; omega
    have := List.getElem_mem hlt
    rwa [List.getElem_take] at this)
  have hroom := hide_ (show i + (n - j) ≤ cap from by omega)
  have hsz := hide_ (show cap * 2 ≤ cs.length from by omega)
  obtain ⟨cs1, hcs1⟩ : ∃ cs1, cs1 = cs.take (i * 2) ++ news ++ cs.drop (i * 2 + news.length) := ⟨_, rfl⟩
  have hcs1' := hide_ hcs1.symm
  have hl1 : cs1.length = cap * 2 := by rw [hcs1]; simp; omega
  have hv := hide_ (show (Value.slice (if cap = r then some (⟨g, 0, none⟩ : Addr) else (some (⟨g, 0, none⟩ : Addr)).map (·.add (r * 2))) (n - r) (cap - r) = .slice (some ⟨g, r * 2, none⟩) 1 (cap - r)) from by
    rw [if_neg (by omega), show n - r = 1 from by omega]
    simp only [Option.map_some, addr_add_off, Nat.zero_add])
  have hoff := hide_ (show r * 2 + 2 ≤ cs1.length from by omega)
  have hfin := hide_ (show ∀ z : List Value, z.length = 2 → (cs1.take (r * 2) ++ z ++ cs1.drop (r * 2 + 2)).length = cap * 2 ∧ (cs1.take (r * 2) ++ z ++ cs1.drop (r * 2 + 2)).take (r * 2) = cs.take (i * 2) ++ (cs.drop (j * 2)).take ((n - j) * 2) from fun z hz => by
    refine ⟨by simp; omega, ?_⟩
    have e1 : (cs1.take (r * 2)).length = r * 2 := by simp; omega
    rw [List.append_assoc, List.take_left' e1, ← hnews, hcs1]
    have e2 : (cs.take (i * 2) ++ news).length = r * 2 := by simp; omega
    rw [List.take_left' e2])
  obtain ⟨v13, hv130⟩ : ∃ v13, (Value.slice (if n = i then some (⟨g, 0, none⟩ : Addr) else (some (⟨g, 0, none⟩ : Addr)).map (·.add (i * 2))) (j - i) (n - i) = v13) := ⟨_, rfl⟩
  have hv13 := hide_ hv130
  clear hB0 hsz0 hi0 h10 hA0 hsrc0 hnews hnl0 hcs1 hl1 hr hj hnc hv130
  go_enter Try.func35, Try.ntmps35
  go_wp2_with ((first | ((with_reducible refine at_cut ?_); refine w_slice Try.enWt.elS _ _ _ _ v13 rfl rfl rfl (bounds_all hij.out hjn.out hnc'.out) hv13.out ?_) | fail) <;> (try refine z0z ?_))
  refine zpz ?_; intro wd hxd
  refine Ph.gate 0 6 (by kernel_rfl) ?_
  refine z51z ?_
  refine LinL.step (s := (.val (.int .i64 (i : Nat)))) [(1, none)] rfl (by kernel_rfl) (op_out 1 (.int .i64 (i : Nat)) rfl (.inl rfl) rfl) ?_
  refine LinL.step (s := (.val (.slice (some ⟨g, 0, none⟩) i cap))) [(20, some 1), (21, some 0)] rfl (by kernel_rfl) (op_runs rfl fun σ w' hx hg => ⟨_, runs_sto (ρ := σ.eval) (w := w') Try.enWt.elS (.tmp 20) (.tmp 21) rfl hg.1 hg.2.1 hic.out, rfl⟩) ?_
  refine z51z ?_
  refine LinL.step (s := (.val (.int .i64 (j : Nat)))) [(2, none)] rfl (by kernel_rfl) (op_out 2 (.int .i64 (j : Nat)) rfl (.inl rfl) rfl) ?_
  refine LinL.step (s := (.val (.slice (some A) (n - j) (cap - j)))) [(23, some 1), (24, some 0)] rfl (by kernel_rfl) (op_runs rfl fun σ w' hx hg => ⟨_, runs_sfrom (ρ := σ.eval) (w := w') Try.enWt.elS (.tmp 23) (.tmp 24) rfl hg.1 hg.2.1 hjn.out hA.out, rfl⟩) ?_
  intro wN hxN
  refine z1dz ?_
  have hBN := hide_ (hB.out.ext (hxd.trans hxN))
  refine zhz ?_
  refine w_appRoom Try.enWt.elS _ _ (i := i) (m := n - j) (cap := cap) (c := cap - j) (A := A) (news := news) (cs := cs) rfl rfl rfl rfl hnl.out (hsrc.out _ hBN.out) h1.out hroom.out hBN.out hsz.out ?_
  intro w1 hm1 hB1
  rw [hr1.out]
  rw [hcs1'.out] at hB1
  replace hm1 := (((hxd.trans hxN).mod fun k => k = g).trans hm1 fun _ _ h => h)
  simp only [Act.put, List.setIfInBounds_toArray]
  show Ph Try.prog _ _ 7 _ _
  refine Ph.rest 7 1 (by kernel_rfl) ?_
  refine LinL.step (s := (.val (.slice (some ⟨g, 0, none⟩) r cap))) [(26, none)] rfl (by kernel_rfl) (op_out 26 (.slice (some ⟨g, 0, none⟩) r cap) rfl (.inr rfl) rfl) ?_
  intro w2 hx2
  simp only [Fin', List.reverse_cons, List.reverse_nil, List.nil_append, List.drop_succ_cons, List.drop_zero, List.take_succ_cons, List.take_zero]
  simp only [Act.put]
  replace hB1 := hide_ (hB1.ext hx2)
  replace hm1 := hm1.trans (hx2.mod fun k => k = g) fun _ _ h => h
  clear hxd hxN hx2 hBN
  go_wp2_with ((first | ((with_reducible refine at_cut ?_); refine w_slice Try.enWt.elS _ _ _ _ _ rfl rfl rfl (bounds_cut hrn.out hnc'.out) hv.out ?_) | (refine w_clear1 Try.enWt _ rfl rfl rfl rfl zWt1 hB1.out hoff.out ?_; intro w3 hm3 hB3; replace hm1 := hm1.trans hm3 fun _ _ h => h; clear hm3 hB1) | fail) <;> (try refine z0z ?_))
  go_ret
  exact Keep.intro ⟨rfl, hm1, _, hB3, hfin.out _ rfl⟩
end Go.Proofs.Ytajkjiegcmpjaaa
namespace Go.Proofs.Ytajkjiegcmpjaaa
set_option maxRecDepth 100000
open Go.RowKit
theorem RowN.split {F : Nat → Prop} {w : World} {e : TypeId} {n : Nat} {v : Value} {rows : List (List Value)} (h : RowN F w e n v rows) : (v = .slice none 0 0 ∧ rows = []) ∨
    ∃ g cap cs, v = .slice (some ⟨g, 0, none⟩) rows.length cap ∧ F g ∧ Blk w g e cs ∧ cs.length = cap * n ∧ rows.length ≤ cap ∧ cap ≤ maxLen ∧ cs.take (rows.length * n) = rows.flatten := by
  obtain ⟨_, hn0 | ⟨g, cap, cur, hv, _, hh, r1, r2, r3, r4⟩⟩ := h.own
  · exact .inl ⟨hn0.1, List.eq_nil_of_length_eq_zero hn0.2⟩
  · exact .inr ⟨g, cap, cur.toList, hv, h.inF g (by rw [hv]; rfl), hh, by simpa using r3, r1, r2, r4⟩
theorem RowN.ofBlk {F : Nat → Prop} {w : World} {g cap n : Nat} {e : TypeId} {cs : List Value} {rows : List (List Value)} (hB : Blk w g e cs) (hcl : cs.length = cap * n) (hn : rows.length ≤ cap) (hcm : cap ≤ maxLen) (hl : ∀ row ∈ rows, row.length = n) (ht : cs.take (rows.length * n) = rows.flatten) (hF : F g) :
    RowN F w e n (.slice (some ⟨g, 0, none⟩) rows.length cap) rows :=
  ⟨⟨flat_len hl, .inr ⟨g, cap, cs.toArray, rfl, Nat.zero_le _, hB, by omega, hcm, by simpa using hcl, ht⟩⟩, hl, fun k hk => by simp [Value.ownBlock] at hk; subst hk; exact hF⟩
end Go.Proofs.Ytajkjiegcmpjaaa
namespace Go.Proofs.Ytajkjiegcmpjaaa
set_option maxHeartbeats 3200000
set_option maxRecDepth 100000
open Go.RowKit
theorem Try.stFet : St Try.prog 79 3 [.int .i64 0, .int .i64 0, .slice none 0 0] := St.of (by kernel_rfl) (by kernel_rfl) rfl
def Ft (F : Nat → Prop) (w : World) (p : Nat) (me nd : Int) (l : List WtD) : Prop :=
  ∃ v, Fs w p [.int .i64 me, .int .i64 nd, v] ∧ RowN (fun k => F k ∧ k ≠ p) w 82 2 v (l.map WtD.row) ∧ F p ∧ ∀ k, F k → k < w.heap.size
def WtR (_ : World) (row : List Value) (x : WtD) : Prop := row = x.row
theorem WtR.stays : Stays WtR := fun _ _ _ _ h _ => h
section
variable {F G : Nat → Prop} {w w' : World} {p : Nat} {me nd : Int} {l : List WtD}
theorem Ft.ext (h : Ft F w p me nd l) (he : Ext w w') : Ft F w' p me nd l := by
  obtain ⟨v, f, hr, hp, hl⟩ := h
  exact ⟨v, f.ext he, hr.ext he, hp, fun k hk => Nat.lt_of_lt_of_le (hl k hk) he.size⟩
theorem Ft.mod (h : Ft F w p me nd l) (hm : Mod G w w') (hd : ∀ k, F k → ¬ G k) : Ft F w' p me nd l := by
  obtain ⟨v, f, hr, hp, hl⟩ := h
  exact ⟨v, f.mod hm (hd p hp), hr.mod hm fun k hk => hd k hk.1, hp, fun k hk => Nat.lt_of_lt_of_le (hl k hk) hm.size⟩
theorem Ft.lt (h : Ft F w p me nd l) : ∀ k, F k → k < w.heap.size := by obtain ⟨_, _, _, _, hl⟩ := h; exact hl
theorem wt_recs {F : Nat → Prop} {v : Value} (hr : RowN F w 82 2 v (l.map WtD.row)) : Recs 2 WtR w v l := hr.recs (by simp) fun k row d h1 h2 => by
  rw [List.getElem?_map, h2] at h1
  injection h1 with h1
  exact h1.symm
theorem Ft.at (h : Ft F w p me nd l) : ∃ v, Fs w p [.int .i64 me, .int .i64 nd, v] ∧ Recs 2 WtR w v l := by
  obtain ⟨v, f, hr, _, _⟩ := h
  exact ⟨v, f, wt_recs hr⟩
end
theorem rowN_one {F : Nat → Prop} {w : World} {e : TypeId} {n : Nat} {v : Value} {rows : List (List Value)} (h : RowN F w e n v rows) : v.oneCell' = true := by
  obtain ⟨A, c, rfl, _⟩ := h.slS; rfl
theorem w_wtidx {P : Program} {ops : Array Oper} {rest : List Oper} {o : Oper} {a : Act} {Q : Exit → Act → World → Prop} {w W0 : World} {t e : TypeId} {v : Value} {l : List WtD} (E : ElS P t e 2) (x y : Operand) (i : Nat) (hgd : o.guard = none) (ho : o.op = .indexAddr t x y) (hv : a.eval x = v) (hy : a.eval y = .int .i64 i)
    (h : Recs 2 WtR W0 v l) (he : Ext W0 w) {d : WtD} (hd : l[i]? = some d) (k : ∀ p, RowAt w p d.row → wpList P ops Q rest (a.put o.dst (.pointer (some p))) w) : wpList P ops Q (o :: rest) a w := by
  have hi := (List.getElem?_eq_some_iff.1 hd).1
  have e : l[i] = d := (List.getElem?_eq_some_iff.1 hd).2
  refine w_ridx0 E x y i WtR.stays hgd ho hv hy h he hi ?_
  rintro pa row hrow _ hR
  rw [e] at hR
  have hr : row = d.row := hR
  subst hr
  exact k pa (hrow.ext he)
theorem runs_tmod {o : Oper} {ρ : Operand → Value} {w : World} {ty ty' : TypeId} (x y : Operand) {a b r : Int} (ho : o.op = .binOp .rem ty x y ty') (hx : ρ x = .int .i64 a) (hy : ρ y = .int .i64 b) (hb : b ≠ 0) (hr : a.tmod b = r) : Runs Try.prog o ρ w (.int .i64 r) := by
  subst hr
  unfold Runs execOp
  simp [ho, hx, hy, go_sem, hb]
theorem FName_any (n : Int) (hn : I64 n) (w : World) : Calls Try.prog 30 #[.int .i64 n] w fun e w' => e = .returned (.bool (decide (NmOk n))) ∧ Ext w w' := by
  refine z2cz ?_
  have hX := Ext.refl w
  obtain ⟨q, hq0⟩ : ∃ q, decide (NmOk n) = q := ⟨_, rfl⟩
  have hq := hide_ hq0
  have hs : decide (0 < nmS n) = q := by rw [← hq0]; exact decide_eq_decide.2 (by rw [← nmS_pos]; omega)
  rw [hq0]
  clear hq0
  go_enter Try.func30, Try.ntmps30
  go_wp2_with (first | (go_at_call 44; refine (Slot_any n hn.1 hn.2 _).mono ?_; rintro e w4 ⟨rfl, hx⟩; replace hX := hX.trans hx; clear hx) | fail)
  go_ret
  exact z2dz
theorem place1_any {w : World} {d : WtD} {g : Nat} {n : Int} (f0 : Fs w g [.int .i64 n]) :
    Calls Try.prog 46 #[.agg d.row.toArray, .pointer (some ⟨g, 0, none⟩)] w fun e w' => e = .returned (.bool (d.nm == n)) ∧ Ext w w' := by
  refine z2cz ?_
  cases c : (d.nm == n)
  all_goals go_enter Try.func46, Try.ntmps46
  all_goals go_wp2_with ((first | ((with_reducible refine at_box ?_); refine w_box _ [.int .i64 d.nm, .int .i64 d.ak] rfl rfl rfl rfl ?_; intro g2 w1 hg2 hX f2; replace f0 := f0.ext hX) | ((with_reducible refine at_field ?_); (try refine w_yes _ _ _ rfl rfl rfl ?_); refine w_field Try.stWt _ _ _ rfl rfl rfl (by omega) ?_) | ((with_reducible refine at_load ?_); refine w_fload (.tmp 4) rfl rfl rfl f2 rfl (agg_of (by kernel_rfl)) ?_) | ((with_reducible refine at_load ?_); refine w_fload (.tmp 1) rfl rfl rfl f0 rfl (agg_of (by kernel_rfl)) ?_) | fail) <;> (try simp only [Act.put, List.setIfInBounds_toArray, List.set_cons_zero, List.set_cons_succ]))
  all_goals go_ret
  all_goals exact Keep.intro ⟨rfl, hX⟩
theorem IndexWt_any {w : World} {v : Value} {l : List WtD} (h0 : Recs 2 WtR w v l) {g : Nat} {n : Int} (f00 : Fs w g [.int .i64 n]) :
    Calls Try.prog 45 #[v, .func (.func 46) #[] #[.pointer (some ⟨g, 0, none⟩)]] w fun e w' => ∃ r : Int, e = .returned (.int .i64 r) ∧ Fe.First l n r ∧ Ext w w' := by
  refine z2cz ?_
  have hr := hide_ h0
  have hmax := h0.len_le
  unfold maxLen at hmax
  have f0 := hide_ f00
  clear h0 f00
  go_enter Try.func45, Try.ntmps45
  go_wp2_with ((first | ((with_reducible refine at_bi ?_); refine w_rlen Try.elWt _ rfl rfl rfl hr.out ?_) | fail) <;> (try refine z0z ?_))
  go_loopw [8] (fun i wr => ∃ k : Nat, i = .int .i64 k ∧ k ≤ l.length ∧ Hid (Fe.has (l.take k) n = false) ∧ Ext w wr) (fun i _ => l.length - (RowKit.intOf i).toNat)
  case atStart => exact ⟨0, rfl, Nat.zero_le _, hide_ (by simp [Fe.has]), Ext.refl _⟩
  case round =>
    obtain ⟨k, rfl, hk, hnt, hX⟩ := hrel
    by_cases hge : l.length ≤ k
    · obtain rfl : k = l.length := by omega
      have t2 : decide (l.length < l.length) = false := by simp
      rw [List.take_length] at hnt
      clear hge
      go_wp2
      go_ret
      exact Keep.intro ⟨-1, rfl, .inl ⟨rfl, hnt.out⟩, hX⟩
    have hlt : k < l.length := by omega
    have t2 : decide (k < l.length) = true := by simpa using hlt
    obtain ⟨d, hd0⟩ : ∃ d, l[k]? = some d := ⟨_, List.getElem?_eq_getElem hlt⟩
    have hlt' := hide_ hlt
    have hkb : k < 9223372036854775807 := by omega
    have hd := hide_ hd0
    cases q1 : (d.nm == n)
    · have hnt2 := hide_ (show Fe.has (l.take (k + 1)) n = false from by rw [Fe.has_take hd0, hnt.out, q1]; rfl)
      have q1' := hide_ q1
      clear hge hlt hd0 hnt q1
      go_wp2_with ((first | (go_at_call 46; refine (place1_any (d := d) (f0.out.ext hX)).mono ?_; rintro e w4 ⟨rfl, hx⟩; rw [q1'.out]; replace hX := hX.trans hx; clear hx) | (refine z4sz ?_; intro pa hrow; replace hrow := hide_ hrow) | refine z5ez ?_ | fail) <;> (try refine z0z ?_))
      go_roundw
      case rel => exact ⟨k + 1, by go_num, hlt'.out, hnt2, hX⟩
      case measure => have := hlt'.out; simp [RowKit.intOf]; omega
    · have q1' := hide_ q1
      clear hge hlt hd0 q1
      go_wp2_with ((first | (go_at_call 46; refine (place1_any (d := d) (f0.out.ext hX)).mono ?_; rintro e w4 ⟨rfl, hx⟩; rw [q1'.out]; replace hX := hX.trans hx; clear hx) | (refine z4sz ?_; intro pa hrow; replace hrow := hide_ hrow) | refine z5ez ?_ | fail) <;> (try refine z0z ?_))
      go_ret
      exact Keep.intro ⟨(k : Nat), rfl, .inr ⟨k, d, rfl, hd.out, by simpa using q1'.out, hnt.out⟩, hX⟩
theorem place_any {w : World} {p : Nat} {me nd : Int} {v : Value} {l : List WtD} (f10 : Fs w p [.int .i64 me, .int .i64 nd, v]) (h0 : Recs 2 WtR w v l) (n : Int) :
    Calls Try.prog 31 #[.pointer (some ⟨p, 0, none⟩), .int .i64 n] w fun e w' => ∃ r : Int, e = .returned (.int .i64 r) ∧ Fe.First l n r ∧ Ext w w' := by
  refine z2cz ?_
  have f1 := hide_ f10
  have hr := hide_ h0
  clear f10 h0
  go_enter Try.func31, Try.ntmps31
  go_wp2_with ((first | (go_at_call 45; refine (IndexWt_any (n := n) (hr.out.ext WtR.stays hX) f3).mono ?_; rintro e w4 ⟨r, rfl, hF, hx⟩; replace hX := hX.trans hx; clear hx) | ((with_reducible refine at_box ?_); refine w_box _ [.int .i64 n] rfl rfl rfl rfl ?_; intro g3 w1 hg3 hX f3) | refine zoz ?_ | fail) <;> (try refine z0z ?_))
  go_ret
  exact Keep.intro ⟨r, rfl, hF, hX⟩
theorem FNew_any (me nd : Int) {w : World} : Calls Try.prog 16 #[.int .i64 me, .int .i64 nd] w fun e w' => ∃ (p : Nat), e = .returned (.pointer (some ⟨p, 0, none⟩)) ∧ Ft (fun k => k = p) w' p me nd [] ∧ Ext w w' ∧ w.heap.size ≤ p := by
  refine z2cz ?_
  go_enter Try.func16, Try.ntmps16
  go_wp2_with ((first | (refine z3wz ?_; refine w_sbuild Try.stFet [.int .i64 me, .int .i64 nd, .slice none 0 0] rfl rfl rfl (by intro p hp; simp at hp; rcases hp with rfl | rfl <;> exact ⟨by decide, rfl⟩) ?_) | ((with_reducible refine at_box ?_); refine w_box _ [.int .i64 me, .int .i64 nd, .slice none 0 0] rfl rfl rfl rfl ?_; intro p w1 hp hX f1) | fail) <;> (try refine z0z ?_))
  go_ret
  exact Keep.intro ⟨p, rfl, ⟨_, f1, RowN.nil _ _ _, rfl, fun k hk => by subst hk; exact f1.lt⟩, hX, hp⟩
theorem alone_any {w : World} {p : Nat} {me nd : Int} {v : Value} (f10 : Fs w p [.int .i64 me, .int .i64 nd, v]) {q : Bool} (hq0 : decide (nd ≤ 1) = q) :
    Calls Try.prog 32 #[.pointer (some ⟨p, 0, none⟩)] w fun e w' => e = .returned (.bool q) ∧ Ext w w' := by
  refine z2cz ?_
  have f1 := hide_ f10
  have hX := Ext.refl w
  clear f10
  go_enter Try.func32, Try.ntmps32
  go_wp2_with ((first | refine zoz ?_ | fail) <;> (try refine z0z ?_))
  go_ret
  exact z2dz
theorem peer_any {w : World} {p : Nat} {me nd k : Int} {v : Value} (f10 : Fs w p [.int .i64 me, .int .i64 nd, v]) (hnd : 2 ≤ nd ∧ nd ≤ 7) (hme : 0 ≤ me ∧ me < nd) (hk : 0 ≤ k ∧ k ≤ 9223372036854775807) :
    Calls Try.prog 33 #[.pointer (some ⟨p, 0, none⟩), .int .i64 k] w fun e w' => e = .returned (.int .i64 (Fe.peer me nd k)) ∧ Ext w w' := by
  refine z2cz ?_
  have f1 := hide_ f10
  have hX := Ext.refl w
  obtain ⟨r1, hr10⟩ : ∃ r1, k % (nd - 1) = r1 := ⟨_, rfl⟩
  have hr1b : 0 ≤ r1 ∧ r1 < nd - 1 := by rw [← hr10]; exact ⟨Int.emod_nonneg _ (by omega), Int.emod_lt_of_pos _ (by omega)⟩
  obtain ⟨r2, hr20⟩ : ∃ r2, (me + 1 + r1) % nd = r2 := ⟨_, rfl⟩
  have hr2b : 0 ≤ r2 ∧ r2 < nd := by rw [← hr20]; exact ⟨Int.emod_nonneg _ (by omega), Int.emod_lt_of_pos _ (by omega)⟩
  have hr1 := hide_ (show k.tmod (nd - 1) = r1 from by rw [Int.tmod_eq_emod_of_nonneg hk.1, hr10])
  have hr2 := hide_ (show (me + 1 + r1).tmod nd = r2 from by rw [Int.tmod_eq_emod_of_nonneg (by omega), hr20])
  have hn1 := hide_ (show nd - 1 ≠ 0 from by omega)
  have hn2 := hide_ (show nd ≠ 0 from by omega)
  have hfin := hide_ (show r2 = Fe.peer me nd k from by unfold Fe.peer; rw [hr10, hr20])
  clear f10 hr10 hr20
  go_enter Try.func33, Try.ntmps33
  go_wp2_with ((first | refine zoz ?_ | fail) <;> (try refine z0z ?_))
  refine zpz ?_; intro wd hxd; have F1 := f1.out.ext (hX.trans hxd)
  refine Ph.rest 0 15 (by kernel_rfl) ?_
  refine z1xz ?_
  refine LinL.step (s := (.val (.pointer (some ⟨p, 0, none⟩)))) [(11, some 0)] rfl (by kernel_rfl) (op_runs rfl fun σ w' hx hg => ⟨_, runs_nil (ρ := σ.eval) (w := w') (.tmp 11) rfl hg.1, rfl⟩) ?_
  refine LinL.step (s := (.val (.pointer (some ⟨p, 0, none⟩)))) [(12, some 0)] rfl (by kernel_rfl) (op_runs rfl fun σ w' hx hg => ⟨_, runs_field (ρ := σ.eval) (w := w') Try.stFet (.tmp 12) p 0 rfl hg.1 (by omega), rfl⟩) ?_
  refine LinL.step (s := (.val (.int .i64 me))) [(13, some 0)] rfl (by kernel_rfl) (op_runs rfl fun σ w' hx hg => ⟨_, runs_fload (ρ := σ.eval) (w := w') (.tmp 13) rfl hg.1 (agg_of (by kernel_rfl) _) (F1.ext hx) rfl, rfl⟩) ?_
  refine LinL.step (s := (.val (.int .i64 (me + 1)))) [(14, some 0)] rfl (by kernel_rfl) (op_runs rfl fun σ w' hx hg => ⟨_, runs_add (ρ := σ.eval) (w := w') (.tmp 14) (.const (.int .i64 1)) ((me + 1)) (by omega) (by omega) rfl hg.1 rfl, rfl⟩) ?_
  refine LinL.step (s := (.val (.int .i64 k))) [(1, none)] rfl (by kernel_rfl) (op_out 1 (.int .i64 k) rfl (.inl rfl) rfl) ?_
  refine LinL.step (s := (.val (.int .i64 (nd - 1)))) [(5, none)] rfl (by kernel_rfl) (op_out 5 (.int .i64 (nd - 1)) rfl (.inl rfl) rfl) ?_
  refine LinL.step (s := (.val (.int .i64 r1))) [(16, some 1), (17, some 0)] rfl (by kernel_rfl) (op_runs rfl fun σ w' hx hg => ⟨_, runs_tmod (ρ := σ.eval) (w := w') (.tmp 16) (.tmp 17) rfl hg.1 hg.2.1 hn1.out hr1.out, rfl⟩) ?_
  refine LinL.step (s := (.val (.int .i64 (me + 1 + r1)))) [(15, some 3), (18, some 0)] rfl (by kernel_rfl) (op_runs rfl fun σ w' hx hg => ⟨_, runs_add (ρ := σ.eval) (w := w') (.tmp 15) (.tmp 18) ((me + 1 + r1)) (by omega) (by omega) rfl hg.1 hg.2.1, rfl⟩) ?_
  refine z1xz ?_
  refine LinL.step (s := (.val (.pointer (some ⟨p, 0, none⟩)))) [(20, some 0)] rfl (by kernel_rfl) (op_runs rfl fun σ w' hx hg => ⟨_, runs_nil (ρ := σ.eval) (w := w') (.tmp 20) rfl hg.1, rfl⟩) ?_
  refine LinL.step (s := (.val (.pointer (some ⟨p, 1, none⟩)))) [(21, some 0)] rfl (by kernel_rfl) (op_runs rfl fun σ w' hx hg => ⟨_, runs_field (ρ := σ.eval) (w := w') Try.stFet (.tmp 21) p 1 rfl hg.1 (by omega), rfl⟩) ?_
  refine LinL.step (s := (.val (.int .i64 nd))) [(22, some 0)] rfl (by kernel_rfl) (op_runs rfl fun σ w' hx hg => ⟨_, runs_fload (ρ := σ.eval) (w := w') (.tmp 22) rfl hg.1 (agg_of (by kernel_rfl) _) (F1.ext hx) rfl, rfl⟩) ?_
  refine LinL.step (s := (.val (.int .i64 r2))) [(19, some 4), (23, some 0)] rfl (by kernel_rfl) (op_runs rfl fun σ w' hx hg => ⟨_, runs_tmod (ρ := σ.eval) (w := w') (.tmp 19) (.tmp 23) rfl hg.1 hg.2.1 hn2.out hr2.out, rfl⟩) ?_
  refine LinL.step (s := (.val (.int .i64 r2))) [(24, some 0)] rfl (by kernel_rfl) (op_copy 24 0 (.val (.int .i64 r2)) rfl (.inr rfl) rfl) ?_
  intro wN hxN
  refine z1dz ?_
  replace hX := hX.trans (hxd.trans hxN)
  go_wp2
  go_ret
  exact Keep.intro ⟨by rw [hfin.out]; rfl, hX⟩
end Go.Proofs.Ytajkjiegcmpjaaa
namespace Go.Proofs.Ytajkjiegcmpjaaa
set_option maxHeartbeats 3200000
set_option maxRecDepth 100000
open Go.RowKit
theorem FWant_any {F : Nat → Prop} {w : World} {p : Nat} {me nd : Int} {l : List WtD} {b : Nat} {n : Int} (h0 : Ft F w p me nd l) (hok : Fe.Ok b l) (hI0 : I64 n) {q : Bool} (hq0 : Fe.can l n = q) :
    Calls Try.prog 17 #[.pointer (some ⟨p, 0, none⟩), .int .i64 n] w fun e w' => ∃ F', e = .returned (.bool q) ∧ Ft F' w' p me nd (Fe.want l n) ∧ Upd F F' w w' := by
  refine z2cz ?_
  obtain ⟨v, f10, hrow0, hFp, hFl⟩ := h0
  have f1 := hide_ f10
  have hr := hide_ (wt_recs hrow0)
  have hX := Ext.refl w
  have hrow := hide_ hrow0
  have hfew := hok.few
  have hI := hide_ hI0
  clear f10 hrow0 hok hI0
  by_cases hR : NmOk n
  rotate_left
  · have hc : Fe.can l n = false := by unfold Fe.can; rw [decide_eq_false hR]; rfl
    obtain rfl : q = false := hq0.symm.trans hc
    have ha := hide_ (show Fe.want l n = l from by unfold Fe.want; rw [if_neg (by rw [hc]; simp)])
    have hdec := hide_ (decide_eq_false hR)
    clear hR hq0 hc
    go_enter Try.func17, Try.ntmps17
    go_wp2_with ((first | (go_at_call 30; refine (FName_any n hI.out _).mono ?_; rintro e w4 ⟨rfl, hx⟩; rw [hdec.out]; replace hX := hX.trans hx; clear hx) | refine z2bz ?_ | fail) <;> (try refine z0z ?_))
    go_ret
    exact z2kz
  have hdec := hide_ (decide_eq_true hR)
  cases hh : Fe.has l n
  rotate_left
  · have hc : Fe.can l n = false := by unfold Fe.can; rw [hh]; simp
    obtain rfl : q = false := hq0.symm.trans hc
    have ha := hide_ (show Fe.want l n = l from by unfold Fe.want; rw [if_neg (by rw [hc]; simp)])
    have hhas := hide_ hh
    clear hR hq0 hc hh
    go_enter Try.func17, Try.ntmps17
    go_wp2_with ((first | (go_at_call 30; refine (FName_any n hI.out _).mono ?_; rintro e w4 ⟨rfl, hx⟩; rw [hdec.out]; replace hX := hX.trans hx; clear hx) | (go_at_call 31; refine (place_any (f1.out.ext hX) (hr.out.ext WtR.stays hX) n).mono ?_; rintro e w5 ⟨r, rfl, hF, hx⟩; have hqr := hF.any.trans hhas.out; clear hF; replace hX := hX.trans hx; clear hx) | refine z2bz ?_ | fail) <;> (try refine z0z ?_))
    go_ret
    exact z2kz
  have hhas := hide_ hh
  by_cases hL : l.length < 32
  rotate_left
  · have hc : Fe.can l n = false := by unfold Fe.can; rw [decide_eq_false hL]; simp
    obtain rfl : q = false := hq0.symm.trans hc
    have ha := hide_ (show Fe.want l n = l from by unfold Fe.want; rw [if_neg (by rw [hc]; simp)])
    have t3 : decide ((32 : Int) ≤ (l.length : Int)) = true := decide_eq_true (by omega)
    clear hR hq0 hc hh
    go_enter Try.func17, Try.ntmps17
    go_wp2_with ((first | (go_at_call 30; refine (FName_any n hI.out _).mono ?_; rintro e w4 ⟨rfl, hx⟩; rw [hdec.out]; replace hX := hX.trans hx; clear hx) | (go_at_call 31; refine (place_any (f1.out.ext hX) (hr.out.ext WtR.stays hX) n).mono ?_; rintro e w5 ⟨r, rfl, hF, hx⟩; have hqr := hF.any.trans hhas.out; clear hF; replace hX := hX.trans hx; clear hx) | refine z2bz ?_ | fail) <;> (try refine z0z ?_))
    go_ret
    exact z2kz
  have hc : Fe.can l n = true := by unfold Fe.can; rw [decide_eq_true hR, hh, decide_eq_true hL]; rfl
  obtain rfl : q = true := hq0.symm.trans hc
  have ha := hide_ (show Fe.want l n = l ++ [⟨n, 0⟩] from by unfold Fe.want; rw [if_pos hc])
  have t3 : decide ((32 : Int) ≤ (l.length : Int)) = false := decide_eq_false (by omega)
  have hbig := hide_ (show ((l.map WtD.row).length + ([[.int .i64 n, .int .i64 0]] : List (List Value)).length) * 16 ≤ 140737488355328 from by simp; omega)
  clear hR hq0 hc hh
  go_enter Try.func17, Try.ntmps17
  go_wp2_with ((first | (go_at_call 30; refine (FName_any n hI.out _).mono ?_; rintro e w4 ⟨rfl, hx⟩; rw [hdec.out]; replace hX := hX.trans hx; clear hx) | (go_at_call 31; refine (place_any (f1.out.ext hX) (hr.out.ext WtR.stays hX) n).mono ?_; rintro e w5 ⟨r, rfl, hF, hx⟩; have hqr := hF.any.trans hhas.out; clear hF; replace hX := hX.trans hx; clear hx) | refine z2bz ?_ | ((with_reducible refine at_sbuild ?_); (try refine w_yes _ _ _ rfl rfl rfl ?_); refine w_sbuild Try.stWt [.int .i64 n, .int .i64 0] rfl rfl rfl (by intro p hp; simp at hp; subst hp; exact ⟨by decide, rfl⟩) ?_) | ((with_reducible refine at_lit ?_); refine w_nnew Try.enWt [[.int .i64 n, .int .i64 0]] rfl rfl rfl (by simp) rfl (by omega) ?_; intro vl w6 B hB1 hB2 hx6 hn6; have hl6 := hn6.slS; replace hX := hX.trans hx6; clear hn6 hB1 hB2 hx6) | ((with_reducible refine at_bi ?_); refine w_napp Try.enWt _ _ rfl rfl rfl rfl (hrow.out.ext hX) hl6 (by simp) (by intro y hy; simp at hy; subst hy; simp; exact ⟨rfl, rfl⟩) hbig.out ?_; intro v9 w7 hm7 hn7; have f7 := (f1.out.ext hX).mod hm7 (fun h => h.2 rfl)) | ((with_reducible refine at_store ?_); refine w_fstore _ _ (u := v9) rfl rfl rfl rfl rfl f7 (by simp) (oneCell_cells (rowN_one hn7)) (rowN_one hn7) (by kernel_rfl) ?_; intro w8 hm8 f8) | fail) <;> (try refine z0z ?_))
  go_ret
  have hp0 : p < w.heap.size := f1.out.lt
  have hm := ((hX.mod (fun k => F k)).trans hm7 fun _ _ h => h.1).trans hm8 fun _ _ e => e ▸ hFp
  have hs7 : w6.heap.size ≤ w7.heap.size := hm7.size
  have hs8 : w7.heap.size ≤ w8.heap.size := hm8.size
  refine Keep.intro ⟨grow F w w8, rfl, ?_, hm, fun k hk => hk⟩
  rw [ha.out]
  refine ⟨v9, f8, ?_, .inl hFp, fun k hk => hk.elim (fun h => Nat.lt_of_lt_of_le (hFl k h) hm.size) And.right⟩
  rw [List.map_append]
  refine (hn7.mod hm8 fun k hk e => ?_).mono fun k hk => ?_
  · subst e
    exact hk.elim (fun h => h.2 rfl) fun h => by have := hX.size; omega
  · refine ⟨hk.elim (fun h => .inl h.1) fun h => .inr ⟨Nat.le_trans hX.size h.1, Nat.lt_of_lt_of_le h.2 hs8⟩, fun e => ?_⟩
    subst e
    exact hk.elim (fun h => h.2 rfl) fun h => by have := hX.size; omega
theorem FGot_any {F : Nat → Prop} {w : World} {p : Nat} {me nd : Int} {l : List WtD} {b : Nat} {n : Int} (h0 : Ft F w p me nd l) (hok : Fe.Ok b l) :
    Calls Try.prog 20 #[.pointer (some ⟨p, 0, none⟩), .int .i64 n] w fun e w' => ∃ F', e = .returned (.tuple #[]) ∧ Ft F' w' p me nd (Fe.got l n) ∧ Upd F F' w w' := by
  refine z2cz ?_
  obtain ⟨v, f10, hrow0, hFp, hFl⟩ := h0
  have f1 := hide_ f10
  have hr := hide_ (wt_recs hrow0)
  have hX := Ext.refl w
  have hrow := hide_ hrow0
  have hfew := hide_ hok.few
  have huq := hide_ hok.uq
  clear f10 hrow0 hok
  cases hh : Fe.has l n
  · have ha := hide_ (Fe.got_no hh)
    have hhas := hide_ hh
    clear hh
    go_enter Try.func20, Try.ntmps20
    go_wp2_with (first | (go_at_call 31; refine (place_any (f1.out.ext hX) (hr.out.ext WtR.stays hX) n).mono ?_; rintro e w5 ⟨r, rfl, hF, hx⟩; have hqr := hF.any.trans hhas.out; clear hF; replace hX := hX.trans hx; clear hx) | fail)
    go_end0
    exact z2kz
  have hhas := hide_ hh
  have hne : l ≠ [] := fun e => by subst e; simp [Fe.has] at hh
  rcases hrow.out.split with ⟨hv0, hnil⟩ | ⟨g, cap, cs, hv0, hg0, hB0, hcl0, hlc0, hcm0, hct0⟩
  · exact absurd (List.map_eq_nil_iff.1 hnil) hne
  rw [List.length_map] at hv0 hlc0 hct0
  subst hv0
  have hB := hide_ hB0
  have hcl := hide_ hcl0
  have hlc := hide_ hlc0
  have hn100 := hide_ (show l.length ≤ 100 from by have := hfew.out; omega)
  have h10 := hide_ (show ∀ u ∈ cs.take (l.length * 2), u.oneCell' = true from fun u hu => by
    rw [hct0] at hu
    obtain ⟨row, hrow', hu⟩ := List.mem_flatten.1 hu
    obtain ⟨x, _, rfl⟩ := List.mem_map.1 hrow'
    simp [WtD.row] at hu
    rcases hu with rfl | rfl <;> rfl)
  clear hh hne hB0 hcl0 hlc0
  go_enter Try.func20, Try.ntmps20
  go_wp2_with ((first | (go_at_call 35; refine (Delete_wt (i := i) (b := (i : Int) + 1) (hB.out.ext hX) hcl.out hil.out hn100.out hlc.out (by omega) h10.out).mono ?_; rintro e w6 ⟨rfl, hm6, cs6, hB6, hcl6, htk6⟩; have f6 := (f1.out.ext hX).mod hm6 hpg.out) | (go_at_call 31; refine (place_any (f1.out.ext hX) (hr.out.ext WtR.stays hX) n).mono ?_; rintro e w5 ⟨r, rfl, hF, hx⟩; have hqr := hF.any.trans hhas.out; obtain ⟨i, x, rfl, hix, hxn, _⟩ := hF.resolve_left (fun h => by have := h.2; rw [hhas.out] at this; cases this); have hil := hide_ (List.getElem?_eq_some_iff.1 hix).1; have hib : i ≤ 32 := (by have := hil.out; have := hfew.out; omega); have ha := hide_ (Fe.got_at huq.out hix hxn); have hpg := hide_ (show ¬ p = g from fun e => hg0.2 e.symm); replace hX := hX.trans hx; clear hx) | refine zoz ?_ | ((with_reducible refine at_store ?_); refine w_fstore _ _ (u := .slice (some ⟨g, 0, none⟩) (l.length - 1) cap) rfl rfl rfl rfl rfl f6 (by simp) rfl rfl (by kernel_rfl) ?_; intro w8 hm8 f8) | fail) <;> (try refine z0z ?_))
  go_end0
  have hm := ((hX.mod (fun k => F k)).trans hm6 fun _ _ e => e ▸ hg0.1).trans hm8 fun _ _ e => e ▸ hFp
  refine Keep.intro ⟨F, rfl, ?_, hm, fun k hk => .inl hk⟩
  rw [ha.out]
  refine ⟨_, f8, ?_, hFp, fun k hk => Nat.lt_of_lt_of_le (hFl k hk) hm.size⟩
  have hlen : (l.eraseIdx i).length = l.length - 1 := List.length_eraseIdx_of_lt hil.out
  have hr2 := RowN.ofBlk (F := fun k => F k ∧ k ≠ p) (rows := (l.eraseIdx i).map WtD.row) (n := 2) (hB6.mod hm8 fun e => hpg.out e.symm) hcl6 (by rw [List.length_map, hlen]; have := hlc.out; omega) hcm0 (fun r hr => by obtain ⟨y, _, rfl⟩ := List.mem_map.1 hr; rfl) ?_ hg0
  · rw [List.length_map, hlen] at hr2; exact hr2
  · rw [List.length_map, hlen, htk6]
    have e1 : ∀ r ∈ l.map WtD.row, r.length = 2 := fun r hr => by obtain ⟨y, _, rfl⟩ := List.mem_map.1 hr; rfl
    have e2 : cs.take (i * 2) = ((l.take i).map WtD.row).flatten := by
      rw [List.map_take, ← flat_take e1, ← hct0, List.take_take, Nat.min_eq_left (by have := hil.out; omega)]
    have e3 : (cs.drop ((i + 1) * 2)).take ((l.length - (i + 1)) * 2) = ((l.drop (i + 1)).map WtD.row).flatten := by
      rw [List.map_drop, ← flat_drop e1, ← hct0, List.drop_take]
      congr 1; omega
    rw [e2, e3, ← List.flatten_append, ← List.map_append, List.eraseIdx_eq_take_drop_succ]
theorem FWanted_any {w : World} {p : Nat} {me nd : Int} {v : Value} {l : List WtD} (f10 : Fs w p [.int .i64 me, .int .i64 nd, v]) (h0 : Recs 2 WtR w v l) (hfew0 : l.length ≤ 32) :
    Calls Try.prog 25 #[.pointer (some ⟨p, 0, none⟩)] w fun e w' => ∃ u, e = .returned u ∧ OwnI w.heap.size w' u (l.map (·.nm)) ∧ Ext w w' := by
  refine z2cz ?_
  have f1 := hide_ f10
  have hr := hide_ h0
  have hfew := hide_ hfew0
  have hX := Ext.refl w
  clear f10 h0
  go_enter Try.func25, Try.ntmps25
  go_wp2_with ((first | refine z2bz ?_ | fail) <;> (try refine z0z ?_))
  go_loopw [3, 11] (fun u3 i wr => ∃ k : Nat, i = .int .i64 k ∧ k ≤ l.length ∧ OwnI w.heap.size wr u3 ((l.take k).map (·.nm)) ∧ Ext w wr) (fun _ i _ => l.length - (RowKit.intOf i).toNat)
  case atStart => exact ⟨0, rfl, Nat.zero_le _, OwnI.nil _ _, hX⟩
  case round =>
    clear hX
    obtain ⟨k, rfl, hk, o3, hX⟩ := hrel
    by_cases hge : l.length ≤ k
    · obtain rfl : k = l.length := by omega
      have t2 : decide (l.length < l.length) = false := by simp
      rw [List.take_length] at o3
      clear hge
      go_wp2
      go_ret
      exact Keep.intro ⟨_, rfl, o3, hX⟩
    have hlt : k < l.length := by omega
    have t2 : decide (k < l.length) = true := by simpa using hlt
    obtain ⟨d, hd0⟩ : ∃ d, l[k]? = some d := ⟨_, List.getElem?_eq_getElem hlt⟩
    have hlt' := hide_ hlt
    have hkb : k ≤ 32 := by omega
    have hd := hide_ hd0
    have hsnoc := hide_ (show (l.take (k + 1)).map (·.nm) = (l.take k).map (·.nm) ++ [d.nm] from by rw [List.take_add_one, hd0]; simp)
    have hbig := hide_ (show (((l.take k).map (·.nm)).length + [d.nm].length) * 8 ≤ 140737488355328 from by simp; omega)
    clear hge hlt hd0
    go_wp2_with ((first | (refine z4sz ?_; intro pa hrow; replace hrow := hide_ hrow) | refine z5ez ?_ | ((with_reducible refine at_alloc ?_); refine w_alloc Try.stWt rfl rfl ?_; intro g5 w2 hg5 hx4 f5) | (refine z3az ?_; refine w_astore Try.stWt _ _ (us := d.row) rfl rfl rfl rfl rfl f5 rfl rfl (by intro u hu; simp [WtD.row] at hu; rcases hu with rfl | rfl <;> rfl) ?_; intro w3 hm5 f6; have hx := hm5.after hx4 (fun i e => e ▸ hg5); replace o3 := o3.ext hx; replace hX := hX.trans hx; replace f5 := f6; clear hx hm5 hx4 f6 hg5) | ((with_reducible refine at_field ?_); (try refine w_yes _ _ _ rfl rfl rfl ?_); refine w_field Try.stWt _ _ _ rfl rfl rfl (by omega) ?_) | ((with_reducible refine at_load ?_); (try refine w_yes _ _ _ rfl rfl rfl ?_); refine w_fload _ rfl rfl rfl f5 rfl (agg_of (by kernel_rfl)) ?_) | ((with_reducible refine at_lit ?_); refine w_new Try.elI [.int .i64 d.nm] rfl rfl rfl (by simp [Value.cells]) rfl (by omega) ?_; intro v7 w7 hx7 hown7; have o7 : OwnI w3.heap.size w7 v7 [d.nm] := hown7; have i7 := o7.ints; replace o3 := o3.ext hx7; replace hX := hX.trans hx7; clear hx7 hown7 o7) | ((with_reducible refine at_bi ?_); refine appi _ _ rfl rfl rfl rfl o3 i7 hbig.out hX.size ?_; intro v8 w8 o8 hb8 _ _; rw [← hsnoc.out] at o8; replace hX := hX.trans' hb8) | fail) <;> (try refine z0z ?_))
    go_roundw
    case rel => exact ⟨k + 1, by go_num, hlt'.out, o8, hX⟩
    case measure => have := hlt'.out; simp [RowKit.intOf]; omega
end Go.Proofs.Ytajkjiegcmpjaaa
namespace Go.Proofs.Ytajkjiegcmpjaaa
set_option maxRecDepth 100000
open Go.RowKit
structure HopN (P : Program) (ops : Array Oper) (n : Nat) (S : List Sp) (a : Act) (w : World) : Prop where
  len : S.length = n
  le : n ≤ ops.size
  uniq : dstsOk ops a.tmps.size = true
  op : ∀ i, i < n → ∃ o reads, ops[i]? = some o ∧ readsOk ops i reads = true ∧ opOk P ops a w (S.take i) o reads (S.getD i (.val undef))
section hop
variable {P : Program} {ops : Array Oper} {n : Nat} {S : List Sp} {a : Act} {w : World} {Q : Exit → Act → World → Prop}
theorem HopN.dlt (H : HopN P ops n S a w) : ∀ (i : Nat) (o : Oper), i < n → ops[i]? = some o → ∀ j ∈ deps o, j < i := fun i o hin hi j hj => by
  obtain ⟨o', reads, ho, hr, _⟩ := H.op i hin
  rw [hi] at ho; cases ho
  simp only [readsOk, hi, Bool.and_eq_true, List.all_eq_true] at hr
  simpa using hr.1.2 j hj
theorem HopN.one (H : HopN P ops n S a w) : ∀ (j : Nat) (o : Oper) (t : Tmp), ops[j]? = some o → o.dst = some t → t < a.tmps.size ∧ ∀ (k : Nat) (ok : Oper), k ≠ j → ops[k]? = some ok → ok.dst ≠ some t := fun j o t hj hd => by
  have hjs := (Array.getElem?_eq_some_iff.1 hj).1
  have hu := H.uniq
  simp only [dstsOk, List.all_eq_true, List.mem_range] at hu
  have h1 := hu j hjs
  simp only [hj, Option.bind_some, hd, Bool.and_eq_true, decide_eq_true_eq, List.all_eq_true, List.mem_range] at h1
  refine ⟨h1.1, fun k ok hk hok he => ?_⟩
  have h2 := h1.2 k (Array.getElem?_eq_some_iff.1 hok).1
  simp [hok, he, hk] at h2
theorem HopN.final (H : HopN P ops n S a w) {K : Act → World → Prop} {listed : Array Bool} {a' : Act} {w' : World} (hF : Fin' K w' (ops.toList.take n) S a) (hall : ∀ i, i < n → listed[i]? = some true) (htl : ∀ i, n ≤ i → i < ops.size → listed[i]? = some false)
    (hI : RInv ops S a w listed a' w') : K a' w' := by
  have hS := H.len
  have hle := H.le
  have hget : ∀ i, i < n → (ops.toList.take n)[i]? = ops[i]? := fun i hi => by rw [List.getElem?_take_of_lt hi]; simp
  have hget2 : ∀ (i : Nat) (o : Oper), (ops.toList.take n)[i]? = some o → i < n ∧ ops[i]? = some o := fun i o hi => by
    have hin : i < n := by
      have := (List.getElem?_eq_some_iff.1 hi).1
      rw [List.length_take] at this; omega
    exact ⟨hin, by rw [← hget i hin]; exact hi⟩
  have hex : ∀ i, i < S.length → ∃ v, (S.getD i (.val undef)).p v w' ∧ ∀ (o : Oper) (t : Tmp), ops[i]? = some o → o.dst = some t → a'.tmps[t]? = some v := by
    intro i hi
    have hio : i < n := by omega
    obtain ⟨o, _, ho, _⟩ := H.op i hio
    cases hd : o.dst with
    | none =>
      obtain ⟨v, hv⟩ := hI.mute i o ho hd (hall i hio)
      exact z4jz
    | some t =>
      refine ⟨a'.tmps.getD t undef, hI.told i o t ho hd (hall i hio), fun o' t' ho' hd' => ?_⟩
      rw [ho] at ho'; cases ho'; rw [hd] at hd'; cases hd'
      have hlt : t < a'.tmps.size := by rw [hI.size]; exact (H.one i o t ho hd).1
      rw [Array.getD_eq_getD_getElem?, Array.getElem?_eq_getElem hlt]; rfl
  let f : Nat → Value := fun i => if h : i < S.length then (hex i h).choose else undef
  let vs : List Value := (List.range S.length).map f
  have hvs : ∀ i, i < S.length → vs[i]? = some (f i) := fun i hi => by simp [vs, List.getElem?_range hi]
  have hfs : ∀ i (hi : i < S.length), (S.getD i (.val undef)).p (f i) w' ∧ ∀ (o : Oper) (t : Tmp), ops[i]? = some o → o.dst = some t → a'.tmps[t]? = some (f i) := fun i hi => by
    have := (hex i hi).choose_spec
    simp only [f, hi, dif_pos]; exact this
  have hput : a' = puts (ops.toList.take n) vs a := by
    have htm : a'.tmps = (puts (ops.toList.take n) vs a).tmps := by
      apply Array.ext_getElem?
      intro t
      by_cases hw : ∃ (j : Nat) (o : Oper), j < n ∧ ops[j]? = some o ∧ o.dst = some t
      · obtain ⟨j, o, hjn, hj, hd⟩ := hw
        have hjs : j < S.length := by omega
        rw [(hfs j hjs).2 o t hj hd]
        exact (puts_at (ops.toList.take n) vs a j o t (f j) (by rw [hget j hjn]; exact hj) hd (hvs j hjs) (H.one j o t hj hd).1 fun i o' hij hi => (H.one j o t hj hd).2 i o' hij (hget2 i o' hi).2).symm
      · rw [puts_other (ops.toList.take n) vs a t fun i o hi hd => hw ⟨i, o, (hget2 i o hi).1, (hget2 i o hi).2, hd⟩]
        exact hI.kept t fun j o hj hd => by
          by_cases hjn : j < n
          · exact absurd ⟨j, o, hjn, hj, hd⟩ hw
          · exact htl j (by omega) (Array.getElem?_eq_some_iff.1 hj).1
    have hde : a'.defers = (puts (ops.toList.take n) vs a).defers := by rw [puts_defers]; exact hI.defers
    cases a'; cases hp : puts (ops.toList.take n) vs a; simp_all
  rw [hput]
  exact Fin'.use (ops.toList.take n) S vs a (by rw [List.length_take]; simp; omega) (by simp [vs]) (fun i hi => by
    rw [List.getD_eq_getElem?_getD (l := vs), hvs i hi]; exact (hfs i hi).1) hF
theorem HopN.step (H : HopN P ops n S a w) {listed : Array Bool} {a' : Act} {w' : World} (hls : listed.size = ops.size) (hcl : Closed ops listed) (hI : RInv ops S a w listed a' w') {i : Nat} {o : Oper} (hin : i < n) (ho : ops[i]? = some o)
    (hun : listed[i]? = some false) (hdeps : ∀ j ∈ deps o, listed[j]? = some true) {K : Act → World → Prop}
    (hK : ∀ a'' w'', Closed ops (listed.setIfInBounds i true) → RInv ops S a w (listed.setIfInBounds i true) a'' w'' → K a'' w'') : wpOp P ops Q i K a' w' := by
  have hdlt := H.dlt
  have huniq := H.one
  have his : i < ops.size := (Array.getElem?_eq_some_iff.1 ho).1
  have hil : i < listed.size := by omega
  have hS := H.len
  obtain ⟨o', reads, ho', hr, hok⟩ := H.op i hin
  rw [ho] at ho'; cases ho'
  simp only [readsOk, ho, Bool.and_eq_true, List.all_eq_true] at hr
  have hlater : ∀ (k : Nat) (ok : Oper), ops[k]? = some ok → i ∈ deps ok → listed[k]? = some false := fun k ok hk hd => by
    have hks : k < listed.size := by rw [hls]; exact (Array.getElem?_eq_some_iff.1 hk).1
    cases hb : listed[k] with
    | false => rw [Array.getElem?_eq_getElem hks, hb]
    | true =>
      have := hcl k ok hk (by rw [Array.getElem?_eq_getElem hks, hb]) i hd
      rw [hun] at this; cases this
  have hg := given_of hI ho (by omega) hun hdeps hlater (hdlt i o hin ho) reads fun r hrm => by
    have h2 := hr.2 r hrm
    cases hj : r.2 with
    | some j => rw [hj] at h2; simpa using h2
    | none =>
      rw [hj] at h2
      simp only [List.all_eq_true, List.mem_range, Bool.or_eq_true, bne_iff_ne, beq_iff_eq] at h2
      intro k hk
      rcases h2 k hk with (h3 | h3) | h3
      · exact .inl h3
      · exact .inr (.inl h3)
      · exact .inr (.inr h3)
  have hstep := hok a' w' hI.ext hg
  have next : ∀ v w'', Ext w' w'' → (S.getD i (.val undef)).p v w'' → K (a'.put o.dst v) w'' := by
    intro v w'' hx hs
    refine hK _ _ ?_ ?_
    · intro k ok hk hl j hj
      by_cases hki : k = i
      · subst hki; rw [ho] at hk; cases hk
        have hne : k ≠ j := by have := hdlt _ _ hin ho j hj; omega
        rw [Array.getElem?_setIfInBounds_ne hne]; exact hdeps j hj
      · rw [Array.getElem?_setIfInBounds_ne (Ne.symm hki)] at hl
        have := hcl k ok hk hl j hj
        by_cases hij : i = j
        · subst hij; rw [hun] at this; cases this
        · rw [Array.getElem?_setIfInBounds_ne hij]; exact this
    · refine ⟨hI.ext.trans hx, by rw [Act.put_defers']; exact hI.defers, by rw [Act.put_size]; exact hI.size, ?_, ?_, ?_⟩
      · intro j oj t hj hd hl
        by_cases hij : i = j
        · subst hij; rw [ho] at hj; cases hj
          have hlt : t < a'.tmps.size := by rw [hI.size]; exact (huniq _ _ _ ho hd).1
          rw [hd, Array.getD_eq_getD_getElem?, Act.put_get]; simp [hlt]; exact hs
        · rw [Array.getElem?_setIfInBounds_ne hij] at hl
          have h1 := hI.told j oj t hj hd hl
          have hne : o.dst ≠ some t := (huniq j oj t hj hd).2 i o hij ho
          have : (a'.put o.dst v).tmps.getD t undef = a'.tmps.getD t undef := by
            cases hod : o.dst with
            | none => rfl
            | some d => rw [Array.getD_eq_getD_getElem?, Act.put_get, if_neg (by rintro rfl; exact hne hod), ← Array.getD_eq_getD_getElem?]
          rw [this]; exact Sp.ext h1 hx
      · intro t ht
        have hne : o.dst ≠ some t := fun hd => by
          have := ht i o ho hd
          rw [Array.getElem?_setIfInBounds_self_of_lt hil] at this; cases this
        have : (a'.put o.dst v).tmps[t]? = a'.tmps[t]? := by
          cases hod : o.dst with
          | none => rfl
          | some d => rw [Act.put_get, if_neg (by rintro rfl; exact hne hod)]
        rw [this]
        refine hI.kept t fun j oj hj hd => ?_
        have := ht j oj hj hd
        by_cases hij : i = j
        · subst hij; rw [Array.getElem?_setIfInBounds_self_of_lt hil] at this; cases this
        · rwa [Array.getElem?_setIfInBounds_ne hij] at this
      · intro j oj hj hd hl
        by_cases hij : i = j
        · subst hij; exact ⟨v, hs⟩
        · rw [Array.getElem?_setIfInBounds_ne hij] at hl
          obtain ⟨u, hu'⟩ := hI.mute j oj hj hd hl
          exact ⟨u, Sp.ext hu' hx⟩
  unfold wpOp
  simp only [ho]
  split
  · rename_i hw
    rw [if_pos hw] at hstep
    exact z4cz
  · rename_i hw
    rw [if_neg hw] at hstep
    exact next undef w' (Ext.refl _) hstep
theorem ready_iff (ops : Array Oper) {listed : Array Bool} (hls : listed.size = ops.size) (i : Nat) : i ∈ Region.ready .any ops listed ↔ ∃ o : Oper, ops[i]? = some o ∧ listed[i]? = some false ∧ ∀ j ∈ deps o, listed[j]? = some true := by
  simp only [Region.ready, List.mem_filter, List.mem_range, Bool.and_eq_true, Bool.not_eq_true']
  constructor
  · rintro ⟨hi, h1, h2⟩
    have ho : ops[i]? = some ops[i] := Array.getElem?_eq_getElem hi
    have hlt : i < listed.size := by omega
    refine ⟨_, ho, ?_, fun j hj => ?_⟩
    · rw [Array.getElem?_eq_getElem hlt]; simpa [Array.getD_eq_getD_getElem?, Array.getElem?_eq_getElem hlt] using h1
    · simp only [ho, Option.map_some, Option.getD_some] at h2
      simp only [deps, List.mem_map, List.mem_filter, Array.mem_toList_iff] at hj
      obtain ⟨e, ⟨he, hb⟩, rfl⟩ := hj
      have h3 := Array.all_eq_true_iff_forall_mem.1 h2 e he
      simp only [hb, Bool.not_true, Bool.false_or] at h3
      rw [Array.getD_eq_getD_getElem?] at h3
      cases hx : listed[e.on]? with
      | none => rw [hx] at h3; simp at h3
      | some b => rw [hx] at h3; simp at h3; rw [h3]
  · rintro ⟨o, ho, h1, h2⟩
    refine ⟨(Array.getElem?_eq_some_iff.1 ho).1, by simp [Array.getD_eq_getD_getElem?, h1], ?_⟩
    simp only [ho, Option.map_some, Option.getD_some]
    refine Array.all_eq_true_iff_forall_mem.2 fun e he => ?_
    by_cases hb : Region.binds .any e = true
    · have := h2 e.on (by simp only [deps, List.mem_map, List.mem_filter, Array.mem_toList_iff]; exact ⟨e, ⟨he, hb⟩, rfl⟩)
      simp [hb, Array.getD_eq_getD_getElem?, this]
    · simp [hb]
theorem headInv_of {listed : Array Bool} (hls : listed.size = ops.size) (hcl : Closed ops listed) (htl : ∀ i, n ≤ i → i < ops.size → listed[i]? = some false) : HeadInv .any ops n listed := by
  refine ⟨hls, fun j oj hj hl e he hb => ?_, fun t ht1 ht2 => by rw [Array.getD_eq_getD_getElem?, htl t ht1 ht2]; rfl⟩
  have hl' : listed[j]? = some true := by
    have hlt : j < listed.size := by rw [hls]; exact (Array.getElem?_eq_some_iff.1 hj).1
    rw [Array.getD_eq_getD_getElem?, Array.getElem?_eq_getElem hlt] at hl
    rw [Array.getElem?_eq_getElem hlt]; simpa using hl
  have := hcl j oj hj hl' e.on (by simp only [deps, List.mem_map, List.mem_filter, Array.mem_toList_iff]; exact ⟨e, ⟨he, hb⟩, rfl⟩)
  rw [Array.getD_eq_getD_getElem?, this]; rfl
theorem wpAny_head (H : HopN P ops n S a w) (hn : n < ops.size) (hs : Region.sinkB .any ops n = true) (hc : Region.chainB .any ops n = true)
    (hseq : Region.seqB .any ops (ops.size - n) n ((List.range ops.size).map fun i => decide (i < n)).toArray = true)
    (hQ : ∀ w' , Ext w w' → Fin' (fun a' w'' => wpList P ops Q (ops.toList.drop n) a' w'') w' (ops.toList.take n) S a) :
    ∀ (f : Nat) (listed : Array Bool) (a' : Act) (w' : World), listed.size = ops.size → (listed.toList.take n).count false = f → Closed ops listed → (∀ i, n ≤ i → i < ops.size → listed[i]? = some false) → RInv ops S a w listed a' w' →
      wpAny P .any ops Q (f + (ops.size - n)) listed a' w' := by
  intro f
  have htake : ∀ (listed : Array Bool) (i : Nat), i < n → listed.size = ops.size → (listed.toList.take n)[i]? = listed[i]? := fun listed i hi hls => by rw [List.getElem?_take_of_lt hi]; simp
  induction f with
  | zero =>
    intro listed a' w' hls hcnt hcl htl hI
    have hall : ∀ i, i < n → listed[i]? = some true := fun i hi => by
      have hm : false ∉ listed.toList.take n := List.count_eq_zero.1 hcnt
      have hlt : i < listed.size := by omega
      rw [Array.getElem?_eq_getElem hlt]
      cases hb : listed[i] with
      | true => rfl
      | false => exact absurd (List.mem_of_getElem? (by rw [htake listed i hi hls, Array.getElem?_eq_getElem hlt, hb])) hm
    have hlist : listed = ((List.range ops.size).map fun i => decide (i < n)).toArray := by
      apply Array.ext_getElem?
      intro i
      by_cases hi : i < ops.size
      · have e1 : (((List.range ops.size).map fun i => decide (i < n)).toArray)[i]? = some (decide (i < n)) := by simp [List.getElem?_range hi]
        rw [e1]
        by_cases hin : i < n
        · rw [hall i hin]; simp [hin]
        · rw [htl i (by omega) hi]; simp [hin]
      · rw [Array.getElem?_eq_none (by omega), Array.getElem?_eq_none (by simp; omega)]
    have hK := H.final (hQ w' hI.ext) hall htl hI
    rw [Nat.zero_add]
    have hdl : (ops.toList.drop n).length = ops.size - n := by simp
    have := wpAny_of_seq (md := .any) (ops := ops) (Q' := Q) (ops.toList.drop n) n listed a' w' (fun j => by simp [List.getElem?_drop]) (by rw [hdl, hlist]; exact hseq) hK
    rwa [hdl] at this
  | succ f ih =>
    intro listed a' w' hls hcnt hcl htl hI
    have inv := headInv_of hls hcl htl
    obtain ⟨i0, hi0, hu0⟩ : ∃ i, i < n ∧ listed[i]? = some false := by
      have hm : false ∈ listed.toList.take n := List.count_pos_iff.1 (by omega)
      obtain ⟨i, hi, he⟩ := List.getElem_of_mem hm
      have hin : i < n := by rw [List.length_take] at hi; omega
      refine ⟨i, hin, ?_⟩
      rw [← htake listed i hin hls, List.getElem?_eq_getElem hi, he]
    rw [show f + 1 + (ops.size - n) = (f + (ops.size - n)) + 1 from by omega]
    refine ⟨fun hnil => ?_, fun i hi => ?_⟩
    · exfalso
      have hno : ∀ i, i < n → listed[i]? = some true := by
        intro i
        induction i using Nat.strongRecOn with
        | _ i ihi =>
          intro hi
          obtain ⟨o, _, ho, _⟩ := H.op i hi
          have hlt : i < listed.size := by omega
          cases hb : listed[i] with
          | true => rw [Array.getElem?_eq_getElem hlt, hb]
          | false =>
            have : i ∈ Region.ready .any ops listed := (ready_iff ops hls i).2 ⟨o, ho, by rw [Array.getElem?_eq_getElem hlt, hb], fun j hj => ihi j (H.dlt i o hi ho j hj) (by have := H.dlt i o hi ho j hj; omega)⟩
            rw [hnil] at this; cases this
      rw [hno i0 hi0] at hu0; cases hu0
    · have hin : i < n := by
        rcases Nat.lt_or_ge i n with h | h
        · exact h
        · exact absurd hi (tail_waits hs hc hn inv _ i0 rfl hi0 (by rw [Array.getD_eq_getD_getElem?, hu0]; rfl) i h)
      obtain ⟨o, ho, hun, hdeps⟩ := (ready_iff ops hls i).1 hi
      refine H.step hls hcl hI hin ho hun hdeps fun a'' w'' hcl' hI' => ih _ _ _ (by simpa using hls) ?_ hcl' (fun j hj1 hj2 => by rw [Array.getElem?_setIfInBounds_ne (by omega)]; exact htl j hj1 hj2) hI'
      have hlf : (listed.toList.take n)[i]? = some false := by rw [htake listed i hin hls]; exact hun
      have := count_set_true _ _ hlf
      rw [Array.toList_setIfInBounds, List.take_set]
      omega
end hop
theorem hopN_of_lin {P : Program} {ops : Array Oper} {n : Nat} {a : Act} {w : World} {R : List Sp → Prop} (hle : n ≤ ops.size) (hu : dstsOk ops a.tmps.size = true) (h : Lin P ops a w R n []) : ∃ S, R S ∧ HopN P ops n S a w := by
  obtain ⟨S, hR, hl, _, hs⟩ := lin_list _ _ h
  simp only [List.length_nil, Nat.zero_add] at hl hs
  exact ⟨S, hR, hl, hle, hu, fun i hi => hs i (Nat.zero_le _) hi⟩
def tailOk (ops : Array Oper) (n size : Nat) : Bool :=
  dstsOk ops size && decide (n < ops.size) && Region.sinkB .any ops n && Region.chainB .any ops n && Region.seqB .any ops (ops.size - n) n ((List.range ops.size).map fun i => decide (i < n)).toArray
theorem wp_region_linT {P : Program} {id : Nat} {ops : Array Oper} {a : Act} {w : World} {Q : Exit → Act → World → Prop} (n : Nat) (hm : P.follows .mixedOrders = true) (hu : tailOk ops n a.tmps.size = true)
    (h : LinR P ops a w.drew (fun S => ∀ w', Ext w.drew w' → Fin' (fun a' w'' => wpList P ops Q (ops.toList.drop n) a' w'') w' (ops.toList.take n) S a) n 0 []) : (Code.region id ops true).wp P Q a w := by
  simp only [tailOk, Bool.and_eq_true, decide_eq_true_eq] at hu
  obtain ⟨⟨⟨⟨h1, h2⟩, h3⟩, h4⟩, h5⟩ := hu
  obtain ⟨S, hR, H⟩ := hopN_of_lin (by omega) h1 (lin_of_r n [] h)
  have := wpAny_head H h2 h3 h4 h5 hR n (Array.replicate ops.size false) a w.drew (by simp) (by
    rw [Array.toList_replicate, List.take_replicate, List.count_replicate_self]; omega) (closed_start ops) (fun i hi1 hi2 => by simp [hi2]) rinv_start
  rw [show n + (ops.size - n) = ops.size from by omega] at this
  exact wp_region_any hm this
end Go.Proofs.Ytajkjiegcmpjaaa
