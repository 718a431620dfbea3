/- A region that draws its order in which all operations but two only add memory; what they tell may be told of memory, too. The two are the making of a variable and the store of what was told to it (x, ok := f(g(y), append([]T{}, z...))). -/
import Derived.Test.YtpnbkgeglgiihaaRegG
import Derived.Test.YtpnbkgeglgiihaaTRC
namespace Go.Proofs.Ytpnbkgeglgiihaa
set_option maxRecDepth 100000
open Go.RowKit

section
variable {P : Program} {ops : Array Oper} {Q : Exit → Act → World → Prop}
/-- What is told of the slots when some operations have come up. -/
structure IVw (w0 : World) (a0 : Act) (idx : List Nat) (dst : Nat → Nat) (V : Nat → Value → World → Prop) (al st : Nat) (zs : List Value) (U : List Value → World → Prop) (listed : Array Bool) (a : Act) (w : World) : Prop where
  sz : a.tmps.size = a0.tmps.size
  df : a.defers = a0.defers
  md : Ext w0 w
  out : ∀ t, (∀ i ∈ idx, t ≠ dst i) → a.tmps.getD t undef = a0.tmps.getD t undef
  val : ∀ i ∈ idx, i ≠ al → listed[i]? = some true → V i (a.tmps.getD (dst i) undef) w
  cell : listed[al]? = some true → ∃ g cs, a.tmps.getD (dst al) undef = .pointer (some ⟨g, 0, none⟩) ∧ w0.heap.size ≤ g ∧ Fs w g cs ∧ (¬ listed[st]? = some true → cs = zs) ∧ (listed[st]? = some true → U cs w)

theorem wp_region_vw {id : Nat} {a : Act} {w : World} (idx : List Nat) (dst : Nat → Nat) (V : Nat → Value → World → Prop) (al st : Nat) (zs : List Value) (U : List Value → World → Prop)
    (hVE : ∀ i v w w', V i v w → Ext w w' → V i v w') (hVS : ∀ i v w w' g, V i v w → Fs w g zs → Mod (fun k => k = g) w w' → V i v w') (hUE : ∀ cs w w', U cs w → Ext w w' → U cs w')
    (hm : P.follows .mixedOrders = true) (hdag : dagB ops = true) (hidx : ((List.range ops.size).all fun i => i == st || idx.contains i) = true) (hal : al ∈ idx) (hst : st ∉ idx)
    (hinj : (idx.all fun i => idx.all fun j => i == j || !(dst i == dst j)) = true) (hlt : ∀ i ∈ idx, dst i < a.tmps.size) (hsa : ((ops[st]?).map fun o => (deps o).contains al).getD false = true) (hss : st < ops.size) (hib : (idx.all fun i => decide (i < ops.size)) = true)
    (steps : ∀ i ∈ idx, i ≠ al → ∀ (b : Act) (w' : World), Ext w w' → (∀ t, (∀ j ∈ idx, t ≠ dst j) → b.tmps.getD t undef = a.tmps.getD t undef) → (∀ j, j ∈ idx → j ≠ al → ((ops[i]?).map fun o => (deps o).contains j).getD false = true → V j (b.tmps.getD (dst j) undef) w') →
      wpOp P ops Q i (fun b' w'' => ∃ x, b' = b.put (some (dst i)) x ∧ V i x w'' ∧ Ext w' w'') b w')
    (alloc : ∀ (b : Act) (w' : World), wpOp P ops Q al (fun b' w'' => ∃ g, b' = b.put (some (dst al)) (.pointer (some ⟨g, 0, none⟩)) ∧ w'.heap.size ≤ g ∧ Ext w' w'' ∧ Fs w'' g zs) b w')
    (store : ∀ (b : Act) (w' : World) (g : Nat), Ext w w' → b.tmps.getD (dst al) undef = .pointer (some ⟨g, 0, none⟩) → Fs w' g zs → (∀ j, j ∈ idx → j ≠ al → ((ops[st]?).map fun o => (deps o).contains j).getD false = true → V j (b.tmps.getD (dst j) undef) w') →
      wpOp P ops Q st (fun b' w'' => ∃ us, b' = b ∧ Mod (fun k => k = g) w' w'' ∧ Fs w'' g us ∧ U us w'') b w')
    (fin : ∀ (w' : World) (x : Nat → Value), Ext w w' → (∀ i ∈ idx, i ≠ al → V i (x i) w') → (∃ g cs, x al = .pointer (some ⟨g, 0, none⟩) ∧ w.heap.size ≤ g ∧ Fs w' g cs ∧ U cs w') → Q .normal (idx.foldl (fun b i => b.put (some (dst i)) (x i)) a) w') :
    (Code.region id ops true).wp P Q a w := by
  have hne : ∀ i ∈ idx, ∀ j ∈ idx, i ≠ j → dst i ≠ dst j := fun i hi j hj hij e => by
    simp only [List.all_eq_true, Bool.or_eq_true, beq_iff_eq, Bool.not_eq_true', beq_eq_false_iff_ne] at hinj
    exact (hinj i hi j hj).elim hij fun h => h e
  refine wp_region_inv hm hdag fun w1 hx1 => ⟨fun listed b w' => IVw w a idx dst V al st zs U listed b w', ⟨rfl, rfl, hx1, fun _ _ => rfl, fun i _ _ hl => ?_, fun hl => ?_⟩, ?_, ?_⟩
  · rw [Array.getElem?_replicate] at hl; split at hl <;> simp at hl
  · rw [Array.getElem?_replicate] at hl; split at hl <;> simp at hl
  · intro listed b w' i o hls h ho hun hdeps hlater
    have his := (Array.getElem?_eq_some_iff.1 ho).1
    have hil : i < listed.size := by omega
    have hL : ∀ j, (listed.setIfInBounds i true)[j]? = some true ↔ j = i ∨ listed[j]? = some true := fun j => by
      rw [show ((listed.setIfInBounds i true)[j]? = some true) = (j = i ∨ listed[j]? = some true) from congrFun (put_listed listed i hil) j]
    have hdep : ∀ j, ((ops[i]?).map fun o => (deps o).contains j).getD false = true → listed[j]? = some true := fun j hb => by
      rw [ho] at hb
      exact hdeps j (by simpa using hb)
    have hfst : i = al → ¬ listed[st]? = some true := fun e hl => by
      subst e
      cases hk : ops[st]? with
      | none => rw [hk] at hsa; cases hsa
      | some ok =>
        rw [hk] at hsa
        rw [hlater st ok hk (by simpa using hsa)] at hl; cases hl
    by_cases hs : i = st
    · subst hs
      have hla : listed[al]? = some true := hdep al hsa
      obtain ⟨g, cs, e1, e2, e3, e4, e5⟩ := h.cell hla
      have hnl : ¬ listed[i]? = some true := by rw [hun]; simp
      obtain rfl := e4 hnl
      refine wpOp_mono (fun b' w'' => ?_) (store b w' g h.md e1 e3 fun j hj hja hb => h.val j hj hja (hdep j hb))
      rintro ⟨us, rfl, hm2, f2, hU⟩
      refine ⟨h.sz, h.df, hm2.after h.md fun k hk => hk ▸ e2, h.out, fun j hj hja hl => hVS _ _ _ _ g (h.val j hj hja (((hL j).1 hl).resolve_left fun e => hst (e ▸ hj))) e3 hm2, fun _ => ⟨g, us, e1, e2, f2, fun hn => absurd ((hL i).2 (.inl rfl)) hn, fun _ => hU⟩⟩
    have hi : i ∈ idx := by
      simp only [List.all_eq_true, List.mem_range, Bool.or_eq_true, beq_iff_eq, List.contains_iff_mem] at hidx
      exact (hidx i his).resolve_left hs
    have hd : dst i < b.tmps.size := by rw [h.sz]; exact hlt i hi
    by_cases ha : i = al
    · subst ha
      refine wpOp_mono (fun b' w'' => ?_) (alloc b w')
      rintro ⟨g, rfl, hg, hx, f⟩
      refine ⟨by rw [Act.put_size]; exact h.sz, by rw [Act.put_defers']; exact h.df, h.md.trans hx, fun t ht => ?_, fun j hj hja hl => ?_, fun _ => ?_⟩
      · rw [put_getD hd, if_neg (ht i hi)]; exact h.out t ht
      · rw [put_getD hd, if_neg (hne j hj i hi hja)]; exact hVE _ _ _ _ (h.val j hj hja (((hL j).1 hl).resolve_left hja)) hx
      · exact ⟨g, zs, by rw [put_getD hd, if_pos rfl], Nat.le_trans h.md.size hg, f, fun _ => rfl, fun hl => absurd (((hL st).1 hl).resolve_left fun e => hst (e ▸ hi)) (hfst rfl)⟩
    · refine wpOp_mono (fun b' w'' => ?_) (steps i hi ha b w' h.md h.out fun j hj hja hb => h.val j hj hja (hdep j hb))
      rintro ⟨x, rfl, hv, hx⟩
      refine ⟨by rw [Act.put_size]; exact h.sz, by rw [Act.put_defers']; exact h.df, h.md.trans hx, fun t ht => ?_, fun j hj hja hl => ?_, fun hl => ?_⟩
      · rw [put_getD hd, if_neg (ht i hi)]; exact h.out t ht
      · by_cases hji : j = i
        · subst hji; rw [put_getD hd, if_pos rfl]; exact hv
        · rw [put_getD hd, if_neg (hne j hj i hi hji)]; exact hVE _ _ _ _ (h.val j hj hja (((hL j).1 hl).resolve_left hji)) hx
      · obtain ⟨g, cs, e1, e2, e3, e4, e5⟩ := h.cell (((hL al).1 hl).resolve_left fun e => ha e.symm)
        exact ⟨g, cs, by rw [put_getD hd, if_neg (hne al hal i hi fun e => ha e.symm)]; exact e1, e2, e3.ext hx, fun hn => e4 fun hl => hn ((hL st).2 (.inr hl)), fun hl => hUE _ _ _ (e5 (((hL st).1 hl).resolve_left fun e => hs e.symm)) hx⟩
  · intro listed b w' hall h
    have hlb : ∀ i ∈ idx, listed[i]? = some true := fun i hi => by
      simp only [List.all_eq_true, decide_eq_true_eq] at hib
      exact hall i (hib i hi)
    obtain ⟨e1, e2, e3⟩ := puts_all b dst idx a hlt
    have he : b = idx.foldl (fun c i => c.put (some (dst i)) (b.tmps.getD (dst i) undef)) a := by
      refine act_eq (by rw [e1]; exact h.sz) (by rw [e2]; exact h.df) fun t => ?_
      rw [e3 t]
      by_cases hm : t ∈ idx.map dst
      · rw [if_pos hm]
      · rw [if_neg hm]
        exact h.out t fun i hi e => hm (List.mem_map.2 ⟨i, hi, e.symm⟩)
    rw [he]
    obtain ⟨g, cs, q1, q2, q3, _, q5⟩ := h.cell (hlb al hal)
    exact fin w' (fun i => b.tmps.getD (dst i) undef) h.md (fun i hi ha => h.val i hi ha (hlb i hi)) ⟨g, cs, q1, q2, q3, q5 (hall st hss)⟩
end
theorem own_zero {w : World} {base n : Nat} {e : TypeId} {v : Value} {len : Nat} {cs : List Value} (h : w.ownsRow base e n v len cs) : w.ownsRow 0 e n v len cs := by
  obtain ⟨hl, hn | ⟨g, cap, cur, hv, hg, rest⟩⟩ := h
  · exact ⟨hl, .inl hn⟩
  · exact ⟨hl, .inr ⟨g, cap, cur, hv, Nat.zero_le _, rest⟩⟩
/-! ### []T{} and append([]T{}, x...) of records -/
section
variable {P : Program} {ops : Array Oper} {rest : List Oper} {a : Act} {Q : Exit → Act → World → Prop} {w : World} {o : Oper} {t e : TypeId} {n bytes : Nat} {z : Value}
/-- []T{}: an empty slice without capacity. -/
theorem w_nempty0 (E : ElN P t e n bytes z) (hgd : o.guard = none) (ho : o.op = .buildSlice t 0 #[]) (k : ∀ ad w', Ext w w' → wpList P ops Q rest (a.put o.dst (.slice (some ad) 0 0)) w') : wpList P ops Q (o :: rest) a w := by
  refine wpList_plain hgd fun K hK => ?_
  have hr := run_nbuild (P := P) E [] #[] rfl (by simp) 0 rfl (by omega) w
  unfold Oper.wp execOp
  simp only [ho]
  simp only [List.map_toArray, List.map_nil, Sem.run_bind, hr, Result.andThen_ok]
  exact hK _ _ (k _ _ ((Ext.refl w).alloc _))
/-- append onto such a slice: what was there stays as it was. -/
theorem w_nclone0 (E : ElN P t e n bytes z) (x y : Operand) {ad : Addr} {s : Value} {ys : List (List Value)} (hgd : o.guard = none) (ho : o.op = .call { callee := .builtin .append, args := #[x, y], argTypes := #[t, t] }) (hv : a.eval x = .slice (some ad) 0 0) (hy : a.eval y = s)
    (hs : SlS w s n ys) (hb : ys.length * bytes ≤ 140737488355328)
    (k : ∀ v' w', Ext w w' → ((ys = [] ∧ v' = .slice (some ad) 0 0) ∨ RowN (fun k => w.heap.size ≤ k) w' e n v' ys) → wpList P ops Q rest (a.put o.dst v') w') : wpList P ops Q (o :: rest) a w := by
  refine wpList_plain hgd fun K hK => ?_
  obtain ⟨i0, hi, hz, hsz, hby⟩ := E.info
  by_cases h0 : ys = []
  · subst h0
    obtain ⟨A, c, rfl, _⟩ := hs
    have hr : (Builtin.append_ #[t, t] o.type #[.slice (some ad) 0 0, .slice A ([] : List (List Value)).length c]).run P w = .ok (.slice (some ad) 0 0) w := by
      cases A with
      | none => simp [Builtin.append_, run_underlying E.hu, sizeOf, typeInfo, hi, Builtin.lenOf, Builtin.firstCells, storeCells]
      | some b => simp [Builtin.append_, run_underlying E.hu, sizeOf, typeInfo, hi, Builtin.lenOf, Builtin.firstCells, storeCells, loadCells, loadCellsFrom]
    unfold Oper.wp execOp
    simp only [ho, resolve, invoke, builtin, Sem.run_bind, Sem.run_pure, Result.andThen_ok, List.map_toArray, List.map_cons, List.map_nil, hv, hy, hr]
    exact hK _ _ (k _ _ (Ext.refl w) (.inl ⟨rfl, rfl⟩))
  · obtain ⟨b, c, rfl, heach, hcells⟩ := slS_cells hs h0 E.pos
    have hpos := List.length_pos_iff.2 h0
    have hm : 0 + ys.length ≤ maxLen := by
      have := Nat.le_mul_of_pos_right ys.length E.bpos
      unfold maxLen; omega
    obtain ⟨v', w', hr, h2, h3⟩ := run_append_arg_grows (P := P) w t o.type e i0 z n bytes E.hu hi hz hsz hby E.zs E.pos ad 0 0 [] (by simp) (fun j u hj => by simp at hj) b ys.length c ys.flatten (flat_len heach) hcells (by omega) hm (by simpa using hb)
    rw [List.nil_append, Nat.zero_add] at h2
    unfold Oper.wp execOp
    simp only [ho, resolve, invoke, builtin, Sem.run_bind, Sem.run_pure, Result.andThen_ok, List.map_toArray, List.map_cons, List.map_nil, hv, hy, hr]
    exact hK _ _ (k v' w' ⟨h3.os, h3.tape, h3.output, h3.size, fun i hi => h3.block i hi (by simp)⟩ (.inr ⟨own_zero h2, heach, fun k hk => (h2.lt k hk).1⟩))
end
end Go.Proofs.Ytpnbkgeglgiihaa
