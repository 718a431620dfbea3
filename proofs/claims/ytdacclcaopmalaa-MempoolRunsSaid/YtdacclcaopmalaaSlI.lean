/- Steps at a row of records of which each cell is told: copy, append of zeros, clear. -/
import Derived.Test.YtdacclcaopmalaaTrK
import Derived.Lib.AppendZerosOnto
import Derived.Lib.Overlaps
import Derived.Laws.IdiomCopy
import Derived.Laws.Externs
import Derived.Laws.AppendOwn
namespace Go.Proofs.Ytdacclcaopmalaa
set_option maxRecDepth 100000
open Go.RowKit

theorem RowN.split {F : Nat → Prop} {w : World} {e : TypeId} {n : Nat} {v : Value} {rows : List (List Value)} (h : RowN F w e n v rows) : (v = .slice none 0 0 ∧ rows = []) ∨
    ∃ g cap cs, v = .slice (some ⟨g, 0, none⟩) rows.length cap ∧ F g ∧ Blk w g e cs ∧ cs.length = cap * n ∧ rows.length ≤ cap ∧ cap ≤ maxLen ∧ cs.take (rows.length * n) = rows.flatten := by
  obtain ⟨_, hn0 | ⟨g, cap, cur, hv, _, hh, r1, r2, r3, r4⟩⟩ := h.own
  · exact .inl ⟨hn0.1, List.eq_nil_of_length_eq_zero hn0.2⟩
  · exact .inr ⟨g, cap, cur.toList, hv, h.inF g (by rw [hv]; rfl), hh, by simpa using r3, r1, r2, r4⟩
theorem RowN.ofBlk {F : Nat → Prop} {w : World} {g cap n : Nat} {e : TypeId} {cs : List Value} {rows : List (List Value)} (hB : Blk w g e cs) (hcl : cs.length = cap * n) (hn : rows.length ≤ cap) (hcm : cap ≤ maxLen) (hl : ∀ row ∈ rows, row.length = n) (ht : cs.take (rows.length * n) = rows.flatten) (hF : F g) :
    RowN F w e n (.slice (some ⟨g, 0, none⟩) rows.length cap) rows :=
  ⟨⟨flat_len hl, .inr ⟨g, cap, cs.toArray, rfl, Nat.zero_le _, hB, by omega, hcm, by simpa using hcl, ht⟩⟩, hl, fun k hk => by simp [Value.ownBlock] at hk; subst hk; exact hF⟩
section
variable {P : Program} {ops : Array Oper} {rest : List Oper} {o : Oper} {a : Act} {Q : Exit → Act → World → Prop} {w : World} {t e : TypeId} {n bytes : Nat} {z : Value}
theorem run_copyN (E : ElS P t e n) (ty : TypeId) {g q dl dc sl sc : Nat} {A : Addr} {news cs : List Value} {e' : TypeId} (hl : news.length = Nat.min sl dl * n)
    (hnews : ∀ j u, news[j]? = some u → w.cell? (A.add j) = some u) (h1 : ∀ u ∈ news, u.oneCell' = true) (hB : Blk w g e' cs) (hsz : q + news.length ≤ cs.length) :
    (Builtin.copy_ #[t, t] ty #[.slice (some ⟨g, q, none⟩) dl dc, .slice (some A) sl sc]).run P w = .ok (goInt (Nat.min sl dl)) (w.setCells g q news) := by
  obtain ⟨i0, hi0, hsz0⟩ := E.info
  have hr := run_loadCells_list (P := P) w A news hnews
  have hst := run_storeCells_cells (P := P) g q news 0 w (fun j hj => by rw [Nat.add_zero, hB.cell (List.getElem?_eq_getElem (show q + j < cs.length from by omega))]; rfl) (fun j _ => hB.frozen _) h1
  have hu := E.hu
  rw [Nat.add_zero] at hst
  rw [hl] at hr
  simp [Builtin.copy_, run_underlying hu, Builtin.lenOf, Builtin.firstCells, sizeOf, typeInfo, hi0, hsz0, hr, hst]
/-- copy(d, s). -/
theorem w_copyN (E : ElS P t e n) (x y : Operand) {g q dl dc sl sc : Nat} {A : Addr} {news cs : List Value} {e' : TypeId} (hgd : o.guard = none) (ho : o.op = .call { callee := .builtin .copy, args := #[x, y], argTypes := #[t, t] }) (hv : a.eval x = .slice (some ⟨g, q, none⟩) dl dc) (hy : a.eval y = .slice (some A) sl sc)
    (hl : news.length = Nat.min sl dl * n) (hnews : ∀ j u, news[j]? = some u → w.cell? (A.add j) = some u) (h1 : ∀ u ∈ news, u.oneCell' = true) (hB : Blk w g e' cs) (hsz : q + news.length ≤ cs.length)
    (k : ∀ w', Mod (fun k => k = g) w w' → Blk w' g e' (cs.take q ++ news ++ cs.drop (q + news.length)) → wpList P ops Q rest (a.put o.dst (goInt (Nat.min sl dl))) w') : wpList P ops Q (o :: rest) a w := by
  refine wpList_plain hgd fun K hK => ?_
  have hr := run_copyN (P := P) (w := w) (dc := dc) (sc := sc) E o.type hl hnews h1 hB hsz
  have hk := hK _ _ (k _ (mod_setCells g news q w) (hB.sets news q w cs hsz))
  unfold Oper.wp execOp
  simp only [ho, resolve, invoke, builtin, Sem.run_bind, Sem.run_pure, Result.andThen_ok, List.map_toArray, List.map_cons, List.map_nil, hv, hy, hr]
  exact hk
theorem zero_cells (E : ElN P t e n bytes z) (k : Nat) : (Builtin.zeroCells z.cells k).toList.length = k * n := by
  have hz := E.zs
  simp [Builtin.zeroCells, hz]
/-- append(s[:i], make([]T, k)...), where s has no room for them. -/
theorem w_nappz (E : ElN P t e n bytes z) {tn : TypeId} (htn : P.underlying tn = some (.int .i64)) (x y : Operand) {g i c k : Nat} {cs : List Value} {e' : TypeId} (hgd : o.guard = none) (ho : o.op = .call { callee := .builtin .append, args := #[x, y], argTypes := #[t, tn] }) (hv : a.eval x = .slice (some ⟨g, 0, none⟩) i c) (hy : a.eval y = .int .i64 (k : Int))
    (h0 : 0 < k) (hroom : c < i + k) (hb : (i + k) * bytes ≤ 140737488355328) (hB : Blk w g e' cs) (hsz : i * n ≤ cs.length)
    (kk : ∀ g' c' w' cs', w.heap.size ≤ g' → Ext w w' → i + k ≤ c' → c' ≤ maxLen → Blk w' g' e cs' → cs'.length = c' * n → cs'.take (i * n) = cs.take (i * n) → wpList P ops Q rest (a.put o.dst (.slice (some ⟨g', 0, none⟩) (i + k) c')) w') : wpList P ops Q (o :: rest) a w := by
  obtain ⟨i0, hi0, hz0, hsz0, hb0⟩ := E.info
  have hpos := E.pos
  have hbpos := E.bpos
  have hle : i + k ≤ (i + k) * bytes := Nat.le_mul_of_pos_right _ hbpos
  have hkb : k * bytes ≤ (i + k) * bytes := Nat.mul_le_mul_right _ (by omega)
  have hBd : Blk w.drew g e' cs := hB
  have hold : (Builtin.firstCells i0.size i (.slice (some ⟨g, 0, none⟩) i c)).run P w.drew = .ok (cs.take (i * n)).toArray w.drew := by
    rw [hsz0]
    refine run_firstCells_some w.drew n i ⟨g, 0, none⟩ i c (cs.take (i * n)) (by rw [List.length_take]; omega) fun j v hj => ?_
    rw [List.getElem?_take] at hj
    split at hj
    · rw [add_zero_off]; exact hBd.cell hj
    · cases hj
  have hr := Lib.run_append_grow_zeros w t tn o.type e i0 z .i64 .i64 E.hu htn hi0 hz0 (some ⟨g, 0, none⟩) i c _ hold k h0 (by omega) hroom (by omega) (by rw [hb0]; omega) (by rw [hb0]; exact growslice_fits hroom hb)
  obtain ⟨G, hG⟩ : ∃ G, G = grownCap w (i + k) c e := ⟨_, rfl⟩
  have hg1 : i + k ≤ G := by rw [hG]; exact grownCap_ge w _ _ _
  have hg2 : G ≤ maxLen := by rw [hG]; exact grownCap_le_maxLen w _ _ _ (by unfold maxLen; omega)
  rw [← hG] at hr
  obtain ⟨cs', hcs'⟩ : ∃ cs' : Array Value, cs' = (cs.take (i * n)).toArray ++ Builtin.zeroCells z.cells k ++ Builtin.zeroCells z.cells (G - (i + k)) := ⟨_, rfl⟩
  rw [← hcs'] at hr
  have htl : cs'.toList = cs.take (i * n) ++ (Builtin.zeroCells z.cells k).toList ++ (Builtin.zeroCells z.cells (G - (i + k))).toList := by rw [hcs']; simp
  have hx : Ext w (w.drew.alloc (.cells cs' e)) := by
    have := ((Ext.refl w).drew).alloc (.cells cs' e)
    exact this
  refine wpList_plain hgd fun K hK => ?_
  have hk := hK _ _ (kk w.heap.size G (w.drew.alloc (.cells cs' e)) cs'.toList (Nat.le_refl _) hx hg1 hg2 (heap_alloc_new w.drew (.cells cs' e)) (by
      rw [htl, List.length_append, List.length_append, zero_cells E k, zero_cells E _, List.length_take, Nat.min_eq_left hsz, ← Nat.add_mul, ← Nat.add_mul]
      congr 1; omega) (by
      rw [htl, List.append_assoc, List.take_left' (by rw [List.length_take]; omega)]))
  unfold Oper.wp execOp
  simp only [ho, resolve, invoke, builtin, Sem.run_bind, Sem.run_pure, Result.andThen_ok, List.map_toArray, List.map_cons, List.map_nil, hv, hy, hr]
  exact hk
end
end Go.Proofs.Ytdacclcaopmalaa
