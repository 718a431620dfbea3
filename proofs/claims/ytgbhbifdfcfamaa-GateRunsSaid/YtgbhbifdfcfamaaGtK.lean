/- Both gates of GateRuns side by side: the program's object, the document's value in its variable; what they outlive. -/
import Derived.Test.YtgbhbifdfcfamaaGtT
import Derived.Test.YtgbhbifdfcfamaaGtC
import Derived.Test.YtgbhbifdfcfamaaGtAct
namespace Go.Proofs.Ytgbhbifdfcfamaa
set_option maxRecDepth 100000
open Go.RowKit

/-- All cells of a kind stay as they are. -/
def CMod (p : Value → Prop) (w w' : World) : Prop := ∀ (a : Addr) (v : Value), w.cell? a = some v → p v → w'.cell? a = some v
def noByte : Value → Prop := fun v => ∀ z, v ≠ .int .u8 z
def isInt : Value → Prop := fun v => ∃ z, v = .int .i64 z
section
variable {p q : Value → Prop} {w w' w'' : World}
theorem CMod.refl : CMod p w w := fun _ _ h _ => h
theorem CMod.trans (h : CMod p w w') (k : CMod p w' w'') : CMod p w w'' := fun a v h1 h2 => k a v (h a v h1 h2) h2
theorem CMod.mono (h : CMod p w w') (hs : ∀ v, q v → p v) : CMod q w w' := fun a v h1 h2 => h a v h1 (hs v h2)
theorem CMod.ofExt (h : Ext w w') : CMod p w w' := fun _ _ h1 _ => h.cell h1
theorem CMod.ofMaps {F : Nat → Prop} (hm : Mod F w w') (hF : ∀ k, F k → IsMapB w k) : CMod p w w' := fun a v h1 _ => by
  rw [World.cell?_of_block (w := w) (hm.block _ (World.block_lt_of_cell? w _ h1) fun hf => ?_)]
  · exact h1
  · obtain ⟨es, c, e⟩ := hF _ hf
    unfold World.cell? at h1
    rw [e] at h1
    cases h1
/-- A variable without numbers is changed. -/
theorem CMod.ofBox {g : Nat} {cs : List Value} (hf : Fs w g cs) (hcs : ∀ u ∈ cs, ∀ z, u ≠ .int .i64 z) (hm : Mod (fun k => k = g) w w') : CMod isInt w w' := fun a v h1 h2 => by
  rw [World.cell?_of_block (w := w) (hm.block _ (World.block_lt_of_cell? w _ h1) fun e => ?_)]
  · exact h1
  · obtain ⟨el, hh⟩ := hf
    obtain ⟨z, rfl⟩ := h2
    subst e
    unfold World.cell? at h1
    rw [hh] at h1
    simp only at h1
    split at h1
    · cases h1
    · obtain ⟨hi, he⟩ := Array.getElem?_eq_some_iff.1 h1
      exact hcs _ (by rw [← he]; simp) z rfl
theorem Sl.cmod {v : Value} {us : List Value} (h : Sl w v us) (hc : CMod p w w') (hp : ∀ u ∈ us, p u) : Sl w' v us := by
  obtain ⟨A, c, e, h1, h2, h3⟩ := h
  exact ⟨A, c, e, h1, h2, fun k u hk => by obtain ⟨ad, e1, h4⟩ := h3 k u hk; exact ⟨ad, e1, hc _ _ h4 (hp u (List.mem_of_getElem? hk))⟩⟩
theorem SlS.cmod {v : Value} {n : Nat} {rows : List (List Value)} (h : SlS w v n rows) (hc : CMod p w w') (hp : ∀ row ∈ rows, ∀ u ∈ row, p u) : SlS w' v n rows := by
  obtain ⟨A, c, e, h1, h2, h3⟩ := h
  exact ⟨A, c, e, h1, h2, fun k row hk => by
    obtain ⟨h5, ad, e1, h4⟩ := h3 k row hk
    exact ⟨h5, ad, e1, fun j u hj => hc _ _ (h4 j u hj) (hp row (List.mem_of_getElem? hk) u (List.mem_of_getElem? hj))⟩⟩
theorem Recs.cmod {α : Type} {n : Nat} {R : World → List Value → α → Prop} {v : Value} {l : List α} (h : Recs n R w v l) (hc : CMod p w w') (hp : ∀ row d, R w row d → ∀ u ∈ row, p u) (hR : ∀ row d, R w row d → R w' row d) : Recs n R w' v l := by
  obtain ⟨rows, h1, h2, h3⟩ := h
  refine ⟨rows, h1.cmod hc fun row hr => ?_, h2, fun k row d hk hd => hR _ _ (h3 k row d hk hd)⟩
  obtain ⟨k, hk, rfl⟩ := List.getElem_of_mem hr
  exact hp _ _ (h3 k _ _ (List.getElem?_eq_getElem hk) (List.getElem?_eq_getElem (by omega)))
theorem recs2_cmod {v : Value} {l : List TxD} (h : Recs 2 TxR w v l) (hc : CMod p w w') (hp : ∀ u, isInt u → p u) : Recs 2 TxR w' v l :=
  h.cmod hc (fun row d hr u hu => hp u (by obtain ⟨rfl, _⟩ := hr; simp at hu; rcases hu with rfl | rfl <;> exact ⟨_, rfl⟩)) fun _ _ h => h
theorem recs5_cmod {v : Value} {l : List BlkD} (h : Recs 5 BlkR w v l) (hc : CMod noByte w w') : Recs 5 BlkR w' v l :=
  h.cmod hc (fun row d hr u hu => by
    obtain ⟨⟨u4, rfl, _, ⟨A, c, rfl, _⟩, _⟩, _⟩ := hr
    simp at hu
    rcases hu with rfl | rfl | rfl | rfl | rfl <;> (intro z e; cases e)) fun row d hr => by
    obtain ⟨⟨u4, e, h5⟩, h6⟩ := hr
    exact ⟨⟨u4, e, recs2_cmod h5 hc fun u ⟨z, e⟩ k e2 => by rw [e] at e2; cases e2⟩, h6⟩
theorem ints_cmod {v : Value} {l : List Int} (h : Ints w v l) (hc : CMod p w w') (hp : ∀ u, isInt u → p u) : Ints w' v l :=
  Sl.cmod h hc fun u hu => hp u (by unfold i64s at hu; obtain ⟨z, _, rfl⟩ := List.mem_map.1 hu; exact ⟨z, rfl⟩)
theorem SdF.cmod {F : Nat → Prop} {v : Value} {ls : List (List Nat)} (h : SdF F w v ls) (hc : CMod (fun _ => True) w w') : SdF F w' v ls := by
  obtain ⟨us, h1, h0, h2, h3⟩ := h
  refine ⟨us, h1.cmod hc fun _ _ => trivial, h0, h2, fun i u l a b => ?_⟩
  obtain ⟨⟨⟨u', e, hb⟩, h4⟩, h5⟩ := h3 i u l a b
  exact ⟨⟨⟨u', e, Sl.cmod hb hc fun _ _ => trivial⟩, h4⟩, h5⟩
end
section
variable {P : Program} {ops : Array Oper} {rest : List Oper} {o : Oper} {a : Act} {Q : Exit → Act → World → Prop} {w : World} {t e : TypeId} {z : Value} {bytes : Nat} {F : Nat → Prop} {v : Value} {xs : List Value}
/-- v[i] = u, v an owned row of bytes: all that isn't a byte stays, whatever block it lies in. -/
theorem w_rstoreK (E : El P t e z bytes) (x y : Operand) {u : Value} {g i : Nat} {b : Int} (hgd : o.guard = none) (ho : o.op = .store e x y) (hd : o.dst = none) (hx : a.eval x = .pointer (some ⟨g, i, none⟩)) (hy : a.eval y = u) (h1 : u.oneCell' = true)
    (h : Row F w e v xs) (hg : v.ownBlock = some g) (hi : i < xs.length) (hb8 : xs[i] = .int .u8 b)
    (k : ∀ w', Mod F w w' → CMod noByte w w' → Row F w' e v (xs.set i u) → wpList P ops Q rest a w') : wpList P ops Q (o :: rest) a w := by
  obtain ⟨g', cap, hv', hb, hgs, hc, hf, hset⟩ := own_at h.own hi
  obtain rfl : g' = g := by rw [hv'] at hg; simpa [Value.ownBlock] using hg
  obtain ⟨i0, hi0, _, hsz, _⟩ := E.info
  refine wpList_plain hgd fun K hK => ?_
  have hr := run_store_one (P := P) hi0 hsz (oneCell_cells h1) h1 hc hf
  have hC : CMod noByte w (w.setCell ⟨g', i, none⟩ u) := fun a v h1 h2 => by
    by_cases ha : (⟨g', i, none⟩ : Addr) = a
    · subst ha; rw [hc, hb8] at h1; injection h1 with h1; exact absurd h1.symm (h2 b)
    · rw [World.cell?_setCell_other (h := ha)]; exact h1
  have hk := hK _ _ (k _ ((Mod.setCell w ⟨g', i, none⟩ u).mono fun j _ hj => by subst hj; exact h.inF _ hg) hC ⟨hset u, h.inF⟩)
  unfold Oper.wp execOp
  simp only [ho, hx, hy, Sem.run_bind, hr, Result.andThen_ok, Sem.run_pure, Oper.upon, hd, Act.put]
  exact hk
end
/-- Both gates: g of the program's, d of the document's (in the variable g6); nothing of either lies in X. -/
structure RunS (X : Nat → Prop) (w : World) (p g1 g2 : Nat) (vgb : Value) (g : GaD) (g6 : Nat) (vb vs vk : Value) (d : GaD) : Prop where
  ga : ∃ G, GaW G w p g1 g2 vgb g ∧ ∀ k, G k → k < w.heap.size ∧ ¬ X k
  xl : ∀ k, X k → k < w.heap.size
  x6 : X g6
  f6 : Fs w g6 [vb, vs, vk]
  bad : Ints w vb d.bad
  sd : SdF (fun k => k < w.heap.size ∧ ¬ X k) w vs d.said
  kn : Recs 5 BlkR w vk d.kn
namespace RunS
variable {X Y : Nat → Prop} {w w' : World} {p g1 g2 g6 : Nat} {vgb vb vs vk : Value} {g d : GaD}
theorem rg (h : RunS X w p g1 g2 vgb g g6 vb vs vk d) : RG w vb vs vk d := ⟨h.bad, h.sd.recs, h.kn⟩
theorem maps (h : RunS X w p g1 g2 vgb g g6 vb vs vk d) : ∀ k, gm g1 g2 k → IsMapB w k := by obtain ⟨G, h1, _⟩ := h.ga; exact h1.maps
theorem ext (h : RunS X w p g1 g2 vgb g g6 vb vs vk d) (he : Ext w w') : RunS X w' p g1 g2 vgb g g6 vb vs vk d := by
  obtain ⟨G, h1, h2⟩ := h.ga
  have hz := he.size
  exact ⟨⟨G, h1.ext he, fun k hk => ⟨Nat.lt_of_lt_of_le (h2 k hk).1 hz, (h2 k hk).2⟩⟩, fun k hk => Nat.lt_of_lt_of_le (h.xl k hk) hz, h.x6, h.f6.ext he, h.bad.ext he, (h.sd.ext he).mono fun k hk => ⟨Nat.lt_of_lt_of_le hk.1 hz, hk.2⟩, h.kn.ext BlkR.stays he⟩
/-- What is new lies in X, too; or X forgets. -/
theorem more (h : RunS X w p g1 g2 vgb g g6 vb vs vk d) (he : Ext w w') : RunS (fun k => X k ∨ w.heap.size ≤ k ∧ k < w'.heap.size) w' p g1 g2 vgb g g6 vb vs vk d := by
  obtain ⟨G, h1, h2⟩ := h.ga
  have hz := he.size
  exact ⟨⟨G, h1.ext he, fun k hk => ⟨Nat.lt_of_lt_of_le (h2 k hk).1 hz, fun e => e.elim (h2 k hk).2 fun e => by have := (h2 k hk).1; omega⟩⟩, fun k hk => hk.elim (fun hk => Nat.lt_of_lt_of_le (h.xl k hk) hz) fun hk => hk.2, .inl h.x6, h.f6.ext he, h.bad.ext he,
    (h.sd.ext he).mono fun k hk => ⟨Nat.lt_of_lt_of_le hk.1 hz, fun e => e.elim hk.2 fun e => by have := hk.1; omega⟩, h.kn.ext BlkR.stays he⟩
theorem less (h : RunS X w p g1 g2 vgb g g6 vb vs vk d) (hY : ∀ k, Y k → X k) (h6 : Y g6) : RunS Y w p g1 g2 vgb g g6 vb vs vk d := by
  obtain ⟨G, h1, h2⟩ := h.ga
  exact ⟨⟨G, h1, fun k hk => ⟨(h2 k hk).1, fun e => (h2 k hk).2 (hY k e)⟩⟩, fun k hk => h.xl k (hY k hk), h6, h.f6, h.bad, h.sd.mono fun k hk => ⟨hk.1, fun e => hk.2 (hY k e)⟩, h.kn⟩
/-- A call on the program's gate. -/
theorem put {G G' : Nat → Prop} {g' : GaD} (h : RunS X w p g1 g2 vgb g g6 vb vs vk d) (hG : ∀ k, G k → k < w.heap.size ∧ ¬ X k) (hM : ∀ k, gm g1 g2 k → IsMapB w k) (b : GaW G' w' p g1 g2 vgb g') (hN : GaN G G' w w' g1 g2) : RunS X w' p g1 g2 vgb g' g6 vb vs vk d := by
  have hz := hN.mod.size
  have hc : CMod (fun _ => True) w w' := CMod.ofMaps hN.mod hM
  refine ⟨⟨G', b, fun k hk => (hN.sub k hk).elim (fun h => ⟨Nat.lt_of_lt_of_le (hG k h).1 hz, (hG k h).2⟩) fun h1 => ⟨h1.2, fun e => by have := h.xl k e; omega⟩⟩, fun k hk => Nat.lt_of_lt_of_le (h.xl k hk) hz, h.x6, h.f6.mapmod hN.mod hM, ints_cmod h.bad hc (fun _ _ => trivial), (h.sd.cmod hc).mono fun k hk => ⟨Nat.lt_of_lt_of_le hk.1 hz, hk.2⟩, recs5_cmod h.kn (hc.mono fun _ _ => trivial)⟩
theorem say (h : RunS X w p g1 g2 vgb g g6 vb vs vk d) {vx : Value} {x : List Nat} (hx0 : ∀ c ∈ x, c < 256) (hl0 : x.length ≤ 140737488355328) (hv0 : Byt w vx x) (hfew0 : g.said.length ≤ 1000 ∧ g.kn.length ≤ 1000) :
    Calls Try.prog 12 #[.pointer (some ⟨p, 0, none⟩), vx] w fun e w' => e = .returned (.tuple #[]) ∧ RunS X w' p g1 g2 vgb (g.say x) g6 vb vs vk d ∧ Mod (gm g1 g2) w w' := by
  obtain ⟨G, a, hG⟩ := h.ga
  refine (GSay_any a hx0 hl0 hv0 hfew0).mono ?_
  rintro e w' ⟨rfl, G', b, hN⟩
  exact ⟨rfl, h.put hG a.maps b hN, hN.mod⟩
theorem pass (h : RunS X w p g1 g2 vgb g g6 vb vs vk d) {vx : Value} {x : List Nat} (hx0 : ∀ c ∈ x, c < 256) (hl0 : x.length ≤ 140737488355328) (hv0 : Byt w vx x) (hfew0 : g.said.length ≤ 1000 ∧ g.kn.length ≤ 1000) {g' : GaD} {q : Bool} (hq : g.pass x = (g', q)) :
    Calls Try.prog 10 #[.pointer (some ⟨p, 0, none⟩), vx] w fun e w' => e = .returned (.bool q) ∧ RunS X w' p g1 g2 vgb g' g6 vb vs vk d ∧ Mod (gm g1 g2) w w' := by
  obtain ⟨G, a, hG⟩ := h.ga
  refine (GPass_any a hx0 hl0 hv0 hfew0).mono ?_
  rintro e w' ⟨rfl, G', b, hN⟩
  rw [hq] at b ⊢
  exact ⟨rfl, h.put hG a.maps b hN, hN.mod⟩
theorem isBad (h : RunS X w p g1 g2 vgb g g6 vb vs vk d) {n : Int} {q : Bool} (hq : decide (n ∈ g.bad) = q) : Calls Try.prog 11 #[.pointer (some ⟨p, 0, none⟩), .int .i64 n] w fun e w' => e = .returned (.bool q) ∧ Ext w w' := by
  obtain ⟨G, a, _⟩ := h.ga
  refine (GBad_any a n).mono ?_
  rintro e w' ⟨rfl, hx⟩; rw [hq]; exact ⟨rfl, hx⟩
/-- The document's value is stored: what it holds is as it was or new. -/
theorem store {vs' vk' : Value} {d' : GaD} (h : RunS X w p g1 g2 vgb g g6 vb vs vk d) (hb : d'.bad = d.bad) (hs : SdF (fun k => k < w.heap.size ∧ ¬ X k) w vs' d'.said) (hk : Recs 5 BlkR w vk' d'.kn) (hm : Mod (fun k => k = g6) w w') (hf : Fs w' g6 [vb, vs', vk']) : RunS X w' p g1 g2 vgb g g6 vb vs' vk' d' := by
  obtain ⟨G, h1, h2⟩ := h.ga
  have hz := hm.size
  have hc0 : ∀ u ∈ [vb, vs, vk], ∀ z, u ≠ .int .i64 z := by
    obtain ⟨_, _, e1, _⟩ := h.bad
    obtain ⟨_, ⟨_, _, e2, _⟩, _⟩ := h.sd
    obtain ⟨_, ⟨_, _, e3, _⟩, _⟩ := h.kn
    intro u hu z e; simp at hu
    rcases hu with rfl | rfl | rfl
    · rw [e1] at e; cases e
    · rw [e2] at e; cases e
    · rw [e3] at e; cases e
  have hc := CMod.ofBox h.f6 hc0 hm
  exact ⟨⟨G, h1.mod hm fun k hk e => (h2 k hk).2 (e ▸ h.x6), fun k hk => ⟨Nat.lt_of_lt_of_le (h2 k hk).1 hz, (h2 k hk).2⟩⟩, fun k hk => Nat.lt_of_lt_of_le (h.xl k hk) hz, h.x6, hf, by rw [hb]; exact ints_cmod h.bad hc fun _ h => h,
    (hs.mod hm fun k hk e => hk.2 (e ▸ h.x6)).mono fun k hk => ⟨Nat.lt_of_lt_of_le hk.1 hz, hk.2⟩, recs5_mod hk h.f6 hc0 hm⟩
/-- The bytes behind an act are changed: they lie in X, and not in the variable. -/
theorem own {F : Nat → Prop} (h : RunS X w p g1 g2 vgb g g6 vb vs vk d) (hm : Mod F w w') (hc : CMod noByte w w') (hF : ∀ k, F k → X k ∧ k ≠ g6) : RunS X w' p g1 g2 vgb g g6 vb vs vk d := by
  obtain ⟨G, h1, h2⟩ := h.ga
  have hz := hm.size
  exact ⟨⟨G, h1.mod hm fun k hk e => (h2 k hk).2 (hF k e).1, fun k hk => ⟨Nat.lt_of_lt_of_le (h2 k hk).1 hz, (h2 k hk).2⟩⟩, fun k hk => Nat.lt_of_lt_of_le (h.xl k hk) hz, h.x6, h.f6.mod hm fun e => (hF _ e).2 rfl, ints_cmod h.bad hc (fun u ⟨z, e⟩ k e2 => by rw [e] at e2; cases e2),
    (h.sd.mod hm fun k hk e => hk.2 (hF k e).1).mono fun k hk => ⟨Nat.lt_of_lt_of_le hk.1 hz, hk.2⟩, recs5_cmod h.kn hc⟩
/-- What the document's Say and Pass answer, ready to be stored. -/
def Ready (X : Nat → Prop) (w : World) (p g1 g2 : Nat) (vgb : Value) (g : GaD) (g6 : Nat) (vb vs vk : Value) (d : GaD) : Prop :=
  (∀ y ∈ [vb, vs, vk], y.oneCell' = true) ∧ ∀ w', Mod (fun k => k = g6) w w' → Fs w' g6 [vb, vs, vk] → RunS X w' p g1 g2 vgb g g6 vb vs vk d
theorem ready {vs' vk' : Value} {d' : GaD} (h : RunS X w p g1 g2 vgb g g6 vb vs vk d) (he : Ext w w') (hr : RG w' vb vs' vk' d') (hb : d'.bad = d.bad) (hs : SdF (fun k => (k < w.heap.size ∧ ¬ X k) ∨ w.heap.size ≤ k ∧ k < w'.heap.size) w' vs' d'.said) : Ready X w' p g1 g2 vgb g g6 vb vs' vk' d' :=
  ⟨fun y hy => by simp at hy; rcases hy with e | e | e; (rw [e]; exact hr.bad.one'); (rw [e]; exact hr.said.oneC); (rw [e]; exact hr.kn.oneC), fun w'' hm hf =>
    (h.ext he).store hb (hs.mono fun k hk => hk.elim (fun hk => ⟨Nat.lt_of_lt_of_le hk.1 he.size, hk.2⟩) fun hk => ⟨hk.2, fun e => by have := h.xl k e; omega⟩) hr.kn hm hf⟩
theorem docSay (h : RunS X w p g1 g2 vgb g g6 vb vs vk d) {vx : Value} {x : List Nat} (hx0 : ∀ c ∈ x, c < 256) (hl0 : x.length ≤ 140737488351232) (hv0 : Byt w vx x) (hfew0 : d.said.length ≤ 1000 ∧ d.kn.length ≤ 1000) :
    Calls Try.prog 13 #[.agg #[vb, vs, vk], vx] w fun e w' => ∃ vs' vk', e = .returned (.agg #[vb, vs', vk']) ∧ Ready X w' p g1 g2 vgb g g6 vb vs' vk' (d.say x) ∧ Ext w w' := by
  refine (refSayF_any h.rg hx0 hl0 hv0 hfew0 h.sd).mono ?_
  rintro e w' ⟨vs', vk', rfl, h1, h2, h3⟩
  exact ⟨vs', vk', rfl, h.ready h2 h1 GaD.say_bad.1 (by rw [GaD.say_bad.2.1]; exact h3), h2⟩
theorem docPass (h : RunS X w p g1 g2 vgb g g6 vb vs vk d) {vx : Value} {x : List Nat} (hx0 : ∀ c ∈ x, c < 256) (hl0 : x.length ≤ 140737488351232) (hv0 : Byt w vx x) (hfew0 : d.said.length ≤ 1000 ∧ d.kn.length ≤ 1000) {d' : GaD} {q : Bool} (hq : d.pass x = (d', q)) :
    Calls Try.prog 14 #[.agg #[vb, vs, vk], vx] w fun e w' => ∃ vk', e = .returned (.tuple #[.agg #[vb, vs, vk'], .bool q]) ∧ Ready X w' p g1 g2 vgb g g6 vb vs vk' d' ∧ Ext w w' := by
  refine (refPass_any h.rg hx0 hl0 hv0 hfew0).mono ?_
  have hb := GaD.pass_bad (g := d) (x := x)
  rw [hq] at hb ⊢
  rintro e w' ⟨vk', rfl, h1, h2⟩
  exact ⟨vk', rfl, h.ready h2 h1 hb.1 (by rw [show d'.said = d.said from hb.2.1]; exact (h.sd.ext h2).mono fun k hk => .inl hk), h2⟩
theorem badR (h : RunS X w p g1 g2 vgb g g6 vb vs vk d) {n : Int} {q : Bool} (hq : decide (n ∈ g.bad) = q) : Calls Try.prog 11 #[.pointer (some ⟨p, 0, none⟩), .int .i64 n] w fun e w' => ∃ v', e = .returned v' ∧ Ext w w' ∧ Sp.p (.val (.bool q)) v' w' := by
  refine (h.isBad hq).mono ?_
  rintro e w' ⟨rfl, hx⟩; exact ⟨_, rfl, hx, rfl⟩
theorem isR (h : RunS X w p g1 g2 vgb g g6 vb vs vk d) {n : Int} {q : Bool} (hq : decide (n ∈ d.bad) = q) : Calls Try.prog 15 #[.agg #[vb, vs, vk], .int .i64 n] w fun e w' => ∃ v', e = .returned v' ∧ Ext w w' ∧ Sp.p (.val (.bool q)) v' w' := by
  refine (refIs_any h.bad h.sd.recs.oneC h.kn.oneC).mono ?_
  rintro e w' ⟨rfl, hx⟩; exact ⟨_, rfl, hx, by rw [hq]; rfl⟩
theorem start {G : Nat → Prop} {bad : List Int} (h : GaW G w p g1 g2 vgb ⟨bad, [], []⟩) (hG : ∀ k, G k → k < w.heap.size ∧ k ≠ g6) (hf : Fs w g6 [vb, .slice none 0 0, .slice none 0 0]) (hb : Ints w vb bad) : RunS (fun k => k = g6) w p g1 g2 vgb ⟨bad, [], []⟩ g6 vb (.slice none 0 0) (.slice none 0 0) ⟨bad, [], []⟩ :=
  ⟨⟨G, h, hG⟩, fun k e => e ▸ hf.lt, rfl, hf, hb, ⟨[], ⟨none, 0, rfl, Nat.zero_le _, Nat.zero_le _, fun k u hk => by simp at hk⟩, fun k hk => by simp [Value.ownBlock] at hk, rfl, fun i u l hi => by simp at hi⟩,
    ⟨[], ⟨none, 0, rfl, Nat.zero_le _, Nat.zero_le _, fun k u hk => by simp at hk⟩, rfl, fun k row d hk => by simp at hk⟩⟩
end RunS
theorem rowU_mapmod {F G : Nat → Prop} {w w' : World} {e : TypeId} {v : Value} {xs : List Value} (h : Row G w e v xs) (hm : Mod F w w') (hF : ∀ k, F k → IsMapB w k) : Row G w' e v xs := ⟨own_mapmod h.own hm hF, h.inF⟩
end Go.Proofs.Ytgbhbifdfcfamaa
