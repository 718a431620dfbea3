/- A region that draws its order in which all operations but two only add memory and tell of values alone; the two are the making of a variable and the store of what was told to it (x, ok := f(g(y))). -/
import Derived.Test.YtgbhbifdfcfamaaRegV
namespace Go.Proofs.Ytgbhbifdfcfamaa
set_option maxRecDepth 100000
open Go.RowKit

section
variable {P : Program} {ops : Array Oper} {Q : Exit → Act → World → Prop}
/-- What is told of the slots when some operations have come up. -/
structure IVal (w0 : World) (a0 : Act) (idx : List Nat) (dst : Nat → Nat) (V : Nat → Value → Prop) (al st : Nat) (zs : List Value) (U : List Value → Prop) (listed : Array Bool) (a : Act) (w : World) : Prop where
  sz : a.tmps.size = a0.tmps.size
  df : a.defers = a0.defers
  md : Ext w0 w
  out : ∀ t, (∀ i ∈ idx, t ≠ dst i) → a.tmps.getD t undef = a0.tmps.getD t undef
  val : ∀ i ∈ idx, i ≠ al → listed[i]? = some true → V i (a.tmps.getD (dst i) undef)
  cell : listed[al]? = some true → ∃ g cs, a.tmps.getD (dst al) undef = .pointer (some ⟨g, 0, none⟩) ∧ w0.heap.size ≤ g ∧ Fs w g cs ∧ (¬ listed[st]? = some true → cs = zs) ∧ (listed[st]? = some true → U cs)

theorem put_getD {a : Act} {d : Nat} {v : Value} (hd : d < a.tmps.size) (t : Nat) : (a.put (some d) v).tmps.getD t undef = if t = d then v else a.tmps.getD t undef := congrFun (put_slots a d v hd) t
theorem puts_all (a' : Act) (dst : Nat → Nat) : ∀ (idx : List Nat) (a : Act), (∀ i ∈ idx, dst i < a.tmps.size) →
    (idx.foldl (fun b i => b.put (some (dst i)) (a'.tmps.getD (dst i) undef)) a).tmps.size = a.tmps.size ∧ (idx.foldl (fun b i => b.put (some (dst i)) (a'.tmps.getD (dst i) undef)) a).defers = a.defers ∧
    ∀ t, (idx.foldl (fun b i => b.put (some (dst i)) (a'.tmps.getD (dst i) undef)) a).tmps.getD t undef = if t ∈ idx.map dst then a'.tmps.getD t undef else a.tmps.getD t undef
  | [], a, _ => ⟨rfl, rfl, fun t => by simp⟩
  | i :: r, a, h => by
    have h1 := h i (List.mem_cons_self ..)
    obtain ⟨e1, e2, e3⟩ := puts_all a' dst r (a.put (some (dst i)) (a'.tmps.getD (dst i) undef)) fun j hj => by rw [Act.put_size]; exact h j (List.mem_cons_of_mem _ hj)
    refine ⟨by rw [List.foldl_cons, e1, Act.put_size], by rw [List.foldl_cons, e2, Act.put_defers'], fun t => ?_⟩
    rw [List.foldl_cons, e3 t, put_getD h1, List.map_cons]
    by_cases hm : t ∈ r.map dst
    · rw [if_pos hm, if_pos (List.mem_cons_of_mem _ hm)]
    · rw [if_neg hm]
      by_cases hd : t = dst i
      · rw [if_pos hd, if_pos (by rw [hd]; exact List.mem_cons_self ..), hd]
      · rw [if_neg hd, if_neg (by intro h; rcases List.mem_cons.1 h with h | h; exact hd h; exact hm h)]
theorem act_eq {a b : Act} (h1 : a.tmps.size = b.tmps.size) (h2 : a.defers = b.defers) (h3 : ∀ t, a.tmps.getD t undef = b.tmps.getD t undef) : a = b := by
  obtain ⟨x, d⟩ := a
  obtain ⟨y, e⟩ := b
  simp only at h1 h2 h3
  subst h2
  congr 1
  refine Array.ext h1 fun i hi hj => ?_
  have := h3 i
  rwa [Array.getD_eq_getD_getElem?, Array.getD_eq_getD_getElem?, Array.getElem?_eq_getElem hi, Array.getElem?_eq_getElem hj] at this

theorem wp_region_val {id : Nat} {a : Act} {w : World} (idx : List Nat) (dst : Nat → Nat) (V : Nat → Value → Prop) (al st : Nat) (zs : List Value) (U : List Value → Prop)
    (hm : P.follows .mixedOrders = true) (hdag : dagB ops = true) (hidx : ((List.range ops.size).all fun i => i == st || idx.contains i) = true) (hal : al ∈ idx) (hst : st ∉ idx)
    (hinj : (idx.all fun i => idx.all fun j => i == j || !(dst i == dst j)) = true) (hlt : ∀ i ∈ idx, dst i < a.tmps.size) (hsa : ((ops[st]?).map fun o => (deps o).contains al).getD false = true) (hss : st < ops.size) (hib : (idx.all fun i => decide (i < ops.size)) = true)
    (steps : ∀ i ∈ idx, i ≠ al → ∀ (b : Act) (w' : World), Ext w w' → (∀ t, (∀ j ∈ idx, t ≠ dst j) → b.tmps.getD t undef = a.tmps.getD t undef) → (∀ j, j ∈ idx → j ≠ al → ((ops[i]?).map fun o => (deps o).contains j).getD false = true → V j (b.tmps.getD (dst j) undef)) →
      wpOp P ops Q i (fun b' w'' => ∃ x, b' = b.put (some (dst i)) x ∧ V i x ∧ Ext w' w'') b w')
    (alloc : ∀ (b : Act) (w' : World), wpOp P ops Q al (fun b' w'' => ∃ g, b' = b.put (some (dst al)) (.pointer (some ⟨g, 0, none⟩)) ∧ w'.heap.size ≤ g ∧ Ext w' w'' ∧ Fs w'' g zs) b w')
    (store : ∀ (b : Act) (w' : World) (g : Nat), Ext w w' → b.tmps.getD (dst al) undef = .pointer (some ⟨g, 0, none⟩) → Fs w' g zs → (∀ j, j ∈ idx → j ≠ al → ((ops[st]?).map fun o => (deps o).contains j).getD false = true → V j (b.tmps.getD (dst j) undef)) →
      wpOp P ops Q st (fun b' w'' => ∃ us, b' = b ∧ Mod (fun k => k = g) w' w'' ∧ Fs w'' g us ∧ U us) b w')
    (fin : ∀ (w' : World) (x : Nat → Value), Ext w w' → (∀ i ∈ idx, i ≠ al → V i (x i)) → (∃ g cs, x al = .pointer (some ⟨g, 0, none⟩) ∧ w.heap.size ≤ g ∧ Fs w' g cs ∧ U cs) → Q .normal (idx.foldl (fun b i => b.put (some (dst i)) (x i)) a) w') :
    (Code.region id ops true).wp P Q a w := by
  have hne : ∀ i ∈ idx, ∀ j ∈ idx, i ≠ j → dst i ≠ dst j := fun i hi j hj hij e => by
    simp only [List.all_eq_true, Bool.or_eq_true, beq_iff_eq, Bool.not_eq_true', beq_eq_false_iff_ne] at hinj
    exact (hinj i hi j hj).elim hij fun h => h e
  refine wp_region_inv hm hdag fun w1 hx1 => ⟨fun listed b w' => IVal w a idx dst V al st zs U listed b w', ⟨rfl, rfl, hx1, fun _ _ => rfl, fun i _ _ hl => ?_, fun hl => ?_⟩, ?_, ?_⟩
  · rw [Array.getElem?_replicate] at hl; split at hl <;> simp at hl
  · rw [Array.getElem?_replicate] at hl; split at hl <;> simp at hl
  · intro listed b w' i o hls h ho hun hdeps hlater
    have his := (Array.getElem?_eq_some_iff.1 ho).1
    have hil : i < listed.size := by omega
    have hL : ∀ j, (listed.setIfInBounds i true)[j]? = some true ↔ j = i ∨ listed[j]? = some true := fun j => by
      rw [show ((listed.setIfInBounds i true)[j]? = some true) = (j = i ∨ listed[j]? = some true) from congrFun (put_listed listed i hil) j]
    have hdep : ∀ j, ((ops[i]?).map fun o => (deps o).contains j).getD false = true → listed[j]? = some true := fun j hb => by
      rw [ho] at hb
      exact hdeps j (by simpa using hb)
    have hfst : i = al → ¬ listed[st]? = some true := fun e hl => by
      subst e
      cases hk : ops[st]? with
      | none => rw [hk] at hsa; cases hsa
      | some ok =>
        rw [hk] at hsa
        rw [hlater st ok hk (by simpa using hsa)] at hl; cases hl
    by_cases hs : i = st
    · subst hs
      have hla : listed[al]? = some true := hdep al hsa
      obtain ⟨g, cs, e1, e2, e3, e4, e5⟩ := h.cell hla
      have hnl : ¬ listed[i]? = some true := by rw [hun]; simp
      obtain rfl := e4 hnl
      refine wpOp_mono (fun b' w'' => ?_) (store b w' g h.md e1 e3 fun j hj hja hb => h.val j hj hja (hdep j hb))
      rintro ⟨us, rfl, hm2, f2, hU⟩
      refine ⟨h.sz, h.df, hm2.after h.md fun k hk => hk ▸ e2, h.out, fun j hj hja hl => h.val j hj hja (((hL j).1 hl).resolve_left fun e => hst (e ▸ hj)), fun _ => ⟨g, us, e1, e2, f2, fun hn => absurd ((hL i).2 (.inl rfl)) hn, fun _ => hU⟩⟩
    have hi : i ∈ idx := by
      simp only [List.all_eq_true, List.mem_range, Bool.or_eq_true, beq_iff_eq, List.contains_iff_mem] at hidx
      exact (hidx i his).resolve_left hs
    have hd : dst i < b.tmps.size := by rw [h.sz]; exact hlt i hi
    by_cases ha : i = al
    · subst ha
      refine wpOp_mono (fun b' w'' => ?_) (alloc b w')
      rintro ⟨g, rfl, hg, hx, f⟩
      refine ⟨by rw [Act.put_size]; exact h.sz, by rw [Act.put_defers']; exact h.df, h.md.trans hx, fun t ht => ?_, fun j hj hja hl => ?_, fun _ => ?_⟩
      · rw [put_getD hd, if_neg (ht i hi)]; exact h.out t ht
      · rw [put_getD hd, if_neg (hne j hj i hi hja)]; exact h.val j hj hja (((hL j).1 hl).resolve_left hja)
      · exact ⟨g, zs, by rw [put_getD hd, if_pos rfl], Nat.le_trans h.md.size hg, f, fun _ => rfl, fun hl => absurd (((hL st).1 hl).resolve_left fun e => hst (e ▸ hi)) (hfst rfl)⟩
    · refine wpOp_mono (fun b' w'' => ?_) (steps i hi ha b w' h.md h.out fun j hj hja hb => h.val j hj hja (hdep j hb))
      rintro ⟨x, rfl, hv, hx⟩
      refine ⟨by rw [Act.put_size]; exact h.sz, by rw [Act.put_defers']; exact h.df, h.md.trans hx, fun t ht => ?_, fun j hj hja hl => ?_, fun hl => ?_⟩
      · rw [put_getD hd, if_neg (ht i hi)]; exact h.out t ht
      · by_cases hji : j = i
        · subst hji; rw [put_getD hd, if_pos rfl]; exact hv
        · rw [put_getD hd, if_neg (hne j hj i hi hji)]; exact h.val j hj hja (((hL j).1 hl).resolve_left hji)
      · obtain ⟨g, cs, e1, e2, e3, e4, e5⟩ := h.cell (((hL al).1 hl).resolve_left fun e => ha e.symm)
        exact ⟨g, cs, by rw [put_getD hd, if_neg (hne al hal i hi fun e => ha e.symm)]; exact e1, e2, e3.ext hx, fun hn => e4 fun hl => hn ((hL st).2 (.inr hl)), fun hl => e5 (((hL st).1 hl).resolve_left fun e => hs e.symm)⟩
  · intro listed b w' hall h
    have hlb : ∀ i ∈ idx, listed[i]? = some true := fun i hi => by
      simp only [List.all_eq_true, decide_eq_true_eq] at hib
      exact hall i (hib i hi)
    obtain ⟨e1, e2, e3⟩ := puts_all b dst idx a hlt
    have he : b = idx.foldl (fun c i => c.put (some (dst i)) (b.tmps.getD (dst i) undef)) a := by
      refine act_eq (by rw [e1]; exact h.sz) (by rw [e2]; exact h.df) fun t => ?_
      rw [e3 t]
      by_cases hm : t ∈ idx.map dst
      · rw [if_pos hm]
      · rw [if_neg hm]
        exact h.out t fun i hi e => hm (List.mem_map.2 ⟨i, hi, e.symm⟩)
    rw [he]
    obtain ⟨g, cs, q1, q2, q3, _, q5⟩ := h.cell (hlb al hal)
    exact fin w' (fun i => b.tmps.getD (dst i) undef) h.md (fun i hi ha => h.val i hi ha (hlb i hi)) ⟨g, cs, q1, q2, q3, q5 (hall st hss)⟩
end
end Go.Proofs.Ytgbhbifdfcfamaa
