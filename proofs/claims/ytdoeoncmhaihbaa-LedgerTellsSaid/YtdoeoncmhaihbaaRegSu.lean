/- A region that draws its order in which all operations but one only add memory and tell of values alone; the one is a store into a block that was there. -/
import Derived.Test.YtdoeoncmhaihbaaRegG
namespace Go.Proofs.Ytdoeoncmhaihbaa
set_option maxRecDepth 100000
open Go.RowKit

section
variable {P : Program} {ops : Array Oper} {Q : Exit → Act → World → Prop}
/-- What is told of the slots when some operations have come up. -/
structure ISt (w0 : World) (a0 : Act) (idx : List Nat) (dst : Nat → Nat) (V : Nat → Value → Prop) (g st : Nat) (zs : List Value) (U : List Value → Prop) (listed : Array Bool) (a : Act) (w : World) : Prop where
  sz : a.tmps.size = a0.tmps.size
  df : a.defers = a0.defers
  md : Mod (fun k => k = g) w0 w
  out : ∀ t, (∀ i ∈ idx, t ≠ dst i) → a.tmps.getD t undef = a0.tmps.getD t undef
  val : ∀ i ∈ idx, listed[i]? = some true → V i (a.tmps.getD (dst i) undef)
  cell : ∃ cs, Fs w g cs ∧ (¬ listed[st]? = some true → cs = zs) ∧ (listed[st]? = some true → U cs)

theorem wp_region_st {id : Nat} {a : Act} {w : World} (idx : List Nat) (dst : Nat → Nat) (V : Nat → Value → Prop) (g st : Nat) (zs : List Value) (U : List Value → Prop) (hz : Fs w g zs)
    (hm : P.follows .mixedOrders = true) (hdag : dagB ops = true) (hidx : ((List.range ops.size).all fun i => i == st || idx.contains i) = true) (hst : st ∉ idx)
    (hinj : (idx.all fun i => idx.all fun j => i == j || !(dst i == dst j)) = true) (hlt : ∀ i ∈ idx, dst i < a.tmps.size) (hss : st < ops.size) (hib : (idx.all fun i => decide (i < ops.size)) = true)
    (steps : ∀ i ∈ idx, ∀ (b : Act) (w' : World), Mod (fun k => k = g) w w' → (∀ t, (∀ j ∈ idx, t ≠ dst j) → b.tmps.getD t undef = a.tmps.getD t undef) → (∀ j, j ∈ idx → ((ops[i]?).map fun o => (deps o).contains j).getD false = true → V j (b.tmps.getD (dst j) undef)) →
      wpOp P ops Q i (fun b' w'' => ∃ x, b' = b.put (some (dst i)) x ∧ V i x ∧ Ext w' w'') b w')
    (store : ∀ (b : Act) (w' : World), Mod (fun k => k = g) w w' → (∀ t, (∀ j ∈ idx, t ≠ dst j) → b.tmps.getD t undef = a.tmps.getD t undef) → Fs w' g zs → (∀ j, j ∈ idx → ((ops[st]?).map fun o => (deps o).contains j).getD false = true → V j (b.tmps.getD (dst j) undef)) →
      wpOp P ops Q st (fun b' w'' => ∃ us, b' = b ∧ Mod (fun k => k = g) w' w'' ∧ Fs w'' g us ∧ U us) b w')
    (fin : ∀ (w' : World) (x : Nat → Value), Mod (fun k => k = g) w w' → (∀ i ∈ idx, V i (x i)) → (∃ cs, Fs w' g cs ∧ U cs) → Q .normal (idx.foldl (fun b i => b.put (some (dst i)) (x i)) a) w') :
    (Code.region id ops true).wp P Q a w := by
  have hne : ∀ i ∈ idx, ∀ j ∈ idx, i ≠ j → dst i ≠ dst j := fun i hi j hj hij e => by
    simp only [List.all_eq_true, Bool.or_eq_true, beq_iff_eq, Bool.not_eq_true', beq_eq_false_iff_ne] at hinj
    exact (hinj i hi j hj).elim hij fun h => h e
  refine wp_region_inv hm hdag fun w1 hx1 => ⟨fun listed b w' => ISt w a idx dst V g st zs U listed b w', ⟨rfl, rfl, hx1.mod _, fun _ _ => rfl, fun i _ hl => ?_, ⟨zs, hz.ext hx1, fun _ => rfl, fun hl => ?_⟩⟩, ?_, ?_⟩
  · rw [Array.getElem?_replicate] at hl; split at hl <;> simp at hl
  · rw [Array.getElem?_replicate] at hl; split at hl <;> simp at hl
  · intro listed b w' i o hls h ho hun hdeps hlater
    have his := (Array.getElem?_eq_some_iff.1 ho).1
    have hil : i < listed.size := by omega
    have hL : ∀ j, (listed.setIfInBounds i true)[j]? = some true ↔ j = i ∨ listed[j]? = some true := fun j => by
      rw [show ((listed.setIfInBounds i true)[j]? = some true) = (j = i ∨ listed[j]? = some true) from congrFun (put_listed listed i hil) j]
    have hdep : ∀ j, ((ops[i]?).map fun o => (deps o).contains j).getD false = true → listed[j]? = some true := fun j hb => by
      rw [ho] at hb
      exact hdeps j (by simpa using hb)
    by_cases hs : i = st
    · subst hs
      obtain ⟨cs, e3, e4, e5⟩ := h.cell
      have hnl : ¬ listed[i]? = some true := by rw [hun]; simp
      obtain rfl := e4 hnl
      refine wpOp_mono (fun b' w'' => ?_) (store b w' h.md h.out e3 fun j hj hb => h.val j hj (hdep j hb))
      rintro ⟨us, rfl, hm2, f2, hU⟩
      refine ⟨h.sz, h.df, h.md.trans hm2 fun _ _ e => e, h.out, fun j hj hl => h.val j hj (((hL j).1 hl).resolve_left fun e => hst (e ▸ hj)), ⟨us, f2, fun hn => absurd ((hL i).2 (.inl rfl)) hn, fun _ => hU⟩⟩
    have hi : i ∈ idx := by
      simp only [List.all_eq_true, List.mem_range, Bool.or_eq_true, beq_iff_eq, List.contains_iff_mem] at hidx
      exact (hidx i his).resolve_left hs
    have hd : dst i < b.tmps.size := by rw [h.sz]; exact hlt i hi
    refine wpOp_mono (fun b' w'' => ?_) (steps i hi b w' h.md h.out fun j hj hb => h.val j hj (hdep j hb))
    rintro ⟨x, rfl, hv, hx⟩
    refine ⟨by rw [Act.put_size]; exact h.sz, by rw [Act.put_defers']; exact h.df, h.md.trans (hx.mod _) fun _ _ e => e, fun t ht => ?_, fun j hj hl => ?_, ?_⟩
    · rw [put_getD hd, if_neg (ht i hi)]; exact h.out t ht
    · by_cases hji : j = i
      · subst hji; rw [put_getD hd, if_pos rfl]; exact hv
      · rw [put_getD hd, if_neg (hne j hj i hi hji)]; exact h.val j hj (((hL j).1 hl).resolve_left hji)
    · obtain ⟨cs, e3, e4, e5⟩ := h.cell
      exact ⟨cs, e3.ext hx, fun hn => e4 fun hl => hn ((hL st).2 (.inr hl)), fun hl => e5 (((hL st).1 hl).resolve_left fun e => hs e.symm)⟩
  · intro listed b w' hall h
    have hlb : ∀ i ∈ idx, listed[i]? = some true := fun i hi => by
      simp only [List.all_eq_true, decide_eq_true_eq] at hib
      exact hall i (hib i hi)
    obtain ⟨e1, e2, e3⟩ := puts_all b dst idx a hlt
    have he : b = idx.foldl (fun c i => c.put (some (dst i)) (b.tmps.getD (dst i) undef)) a := by
      refine act_eq (by rw [e1]; exact h.sz) (by rw [e2]; exact h.df) fun t => ?_
      rw [e3 t]
      by_cases hm : t ∈ idx.map dst
      · rw [if_pos hm]
      · rw [if_neg hm]
        exact h.out t fun i hi e => hm (List.mem_map.2 ⟨i, hi, e.symm⟩)
    rw [he]
    obtain ⟨cs, q3, _, q5⟩ := h.cell
    exact fin w' (fun i => b.tmps.getD (dst i) undef) h.md (fun i hi => h.val i hi (hlb i hi)) ⟨cs, q3, q5 (hall st hss)⟩
end
end Go.Proofs.Ytdoeoncmhaihbaa
