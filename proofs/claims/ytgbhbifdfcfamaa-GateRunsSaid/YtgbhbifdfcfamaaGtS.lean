/- The document's gate: what somebody says. -/
import Derived.Test.YtgbhbifdfcfamaaGtR
import Derived.Test.YtgbhbifdfcfamaaRecsBB
import Derived.Deep.Cut
namespace Go.Proofs.Ytgbhbifdfcfamaa
set_option maxRecDepth 100000
open Go.RowKit Go.ChangeShapes Go.WideShapes Go.ChangeAt

/-- A slice of slices of bytes, by its cells. -/
theorem sl_of_bb {w : World} {v : Value} {ls : List (List Nat)} (h : Recs 1 BytOk w v ls) : ∃ us, Sl w v us ∧ us.length = ls.length ∧ ∀ (i : Nat) (u : Value) (l : List Nat), us[i]? = some u → ls[i]? = some l → BytOk w [u] l := by
  obtain ⟨rows, ⟨A, c, rfl, h1, h2, h3⟩, hl, hR⟩ := h
  have hrow : ∀ (k : Nat) (row : List Value), rows[k]? = some row → row = [row.headD undef] := fun k row hk => by
    have := (h3 k row hk).1
    match row, this with
    | [u], _ => rfl
  refine ⟨rows.map fun r => r.headD undef, ⟨A, c, by rw [List.length_map], by rw [List.length_map]; exact h1, h2, fun k u hk => ?_⟩, by rw [List.length_map]; exact hl, fun i u l hi hd => ?_⟩
  · rw [List.getElem?_map] at hk
    cases hq : rows[k]? with
    | none => rw [hq] at hk; cases hk
    | some row =>
      rw [hq] at hk
      obtain ⟨_, ad, e, hc⟩ := h3 k row hq
      refine ⟨ad, e, ?_⟩
      have e2 : row.headD undef = u := by simpa using hk
      have h0 := hc 0 u (by rw [hrow k row hq, ← e2]; rfl)
      rw [Addr.add_zero', Nat.mul_one] at h0; exact h0
  · rw [List.getElem?_map] at hi
    cases hq : rows[i]? with
    | none => rw [hq] at hi; cases hi
    | some row =>
      rw [hq] at hi
      have e2 : row.headD undef = u := by simpa using hi
      have := hR i row l hq hd
      rw [hrow i row hq, e2] at this; exact this
theorem bb_of_sl {w : World} {v : Value} {us : List Value} {ls : List (List Nat)} (h : Sl w v us) (hl : us.length = ls.length) (hu : ∀ (i : Nat) (u : Value) (l : List Nat), us[i]? = some u → ls[i]? = some l → BytOk w [u] l) : Recs 1 BytOk w v ls := by
  obtain ⟨A, c, rfl, h1, h2, h3⟩ := h
  refine ⟨us.map fun u => [u], ⟨A, c, by rw [List.length_map], by rw [List.length_map]; exact h1, h2, fun k row hk => ?_⟩, by rw [List.length_map]; exact hl, fun k row l hk hd => ?_⟩
  all_goals
    rw [List.getElem?_map] at hk
    cases hq : us[k]? with
    | none => rw [hq] at hk; cases hk
    | some u =>
      rw [hq] at hk
      have e : [u] = row := by simpa using hk
      subst e
      first
        | exact hu k u l hq hd
        | (obtain ⟨ad, e, hc⟩ := h3 k u hq
           refine ⟨rfl, ad, e, fun j x hj => ?_⟩
           match j with
           | 0 =>
             have e2 : u = x := by simpa using hj
             subst e2
             rw [Addr.add_zero', Nat.mul_one]; exact hc
           | j + 1 => simp at hj)
theorem bb_more {w : World} {v u : Value} {us : List Value} {ls : List (List Nat)} {x : List Nat} (h : Sl w v (us ++ [u])) (hl : us.length = ls.length) (hu : ∀ (i : Nat) (u : Value) (l : List Nat), us[i]? = some u → ls[i]? = some l → BytOk w [u] l) (hx : BytOk w [u] x) : Recs 1 BytOk w v (ls ++ [x]) :=
  bb_of_sl h (by simp [hl]) fun i y l hi hd => by
    by_cases hil : i < us.length
    · rw [List.getElem?_append_left hil] at hi
      rw [List.getElem?_append_left (by omega)] at hd
      exact hu i y l hi hd
    · rw [List.getElem?_append_right (by omega)] at hi
      rw [List.getElem?_append_right (by omega)] at hd
      have e : i - us.length = 0 := by
        have := (List.getElem?_eq_some_iff.1 hi).1; simp at this; omega
      rw [← hl, e] at hd
      rw [e] at hi
      simp at hi hd
      subst hi hd
      exact hx
theorem RowAt.eq {w : World} {p : Addr} {a b : List Value} (h : RowAt w p a) (k : RowAt w p b) (hl : a.length = b.length) : a = b :=
  List.ext_getElem hl fun i h1 h2 => by
    have e1 := h i _ (List.getElem?_eq_getElem h1)
    have e2 := k i _ (List.getElem?_eq_getElem h2)
    rw [e1] at e2; injection e2
theorem SlS.rows_eq {w : World} {v : Value} {n : Nat} {a b : List (List Value)} (h : SlS w v n a) (k : SlS w v n b) (hl : a.length = b.length) : a = b := by
  obtain ⟨A, c, rfl, _, _, h4⟩ := h
  obtain ⟨A', c', e, _, _, k4⟩ := k
  injection e with e1 e2 e3
  subst e1
  refine List.ext_getElem hl fun i h1 h2 => ?_
  obtain ⟨l1, ad, e1, r1⟩ := h4 i _ (List.getElem?_eq_getElem h1)
  obtain ⟨l2, ad', e2, r2⟩ := k4 i _ (List.getElem?_eq_getElem h2)
  rw [e1] at e2; injection e2 with e2; subst e2
  exact r1.eq r2 (by omega)
/-- Records whose first cell is a number don't lie in a block without numbers. -/
theorem RowAt.modI {w w' : World} {p : Addr} {z : Int} {r : List Value} {g : Nat} {cs : List Value} (h : RowAt w p (.int .i64 z :: r)) (hf : Fs w g cs) (hcs : ∀ u ∈ cs, ∀ z, u ≠ .int .i64 z) (hm : Mod (fun k => k = g) w w') : RowAt w' p (.int .i64 z :: r) :=
  h.mod hm fun e => by
    have h0 := h 0 _ rfl
    rw [Addr.add_zero'] at h0
    obtain ⟨el, hh⟩ := hf
    subst e
    unfold World.cell? at h0
    rw [hh] at h0
    simp only at h0
    split at h0
    · cases h0
    · obtain ⟨hi, he⟩ := Array.getElem?_eq_some_iff.1 h0
      exact hcs _ (by rw [← he]; simp) z rfl
theorem recs_modI {α : Type} {n : Nat} {R R' : World → List Value → α → Prop} {w w' : World} {v : Value} {l : List α} {g : Nat} {cs : List Value} (h : Recs n R w v l) (hf : Fs w g cs) (hcs : ∀ u ∈ cs, ∀ z, u ≠ .int .i64 z) (hm : Mod (fun k => k = g) w w') (hI : ∀ row d, R w row d → ∃ z r, row = .int .i64 z :: r) (hR : ∀ row d, R w row d → R' w' row d) : Recs n R' w' v l := by
  obtain ⟨rows, ⟨A, c, rfl, h1, h2, h3⟩, hl, h4⟩ := h
  refine ⟨rows, ⟨A, c, rfl, h1, h2, fun k row hk => ?_⟩, hl, fun k row d hk hd => hR _ _ (h4 k row d hk hd)⟩
  obtain ⟨h5, ad, rfl, h6⟩ := h3 k row hk
  have hlt := (List.getElem?_eq_some_iff.1 hk).1
  obtain ⟨z, r, rfl⟩ := hI row _ (h4 k row _ hk (List.getElem?_eq_getElem (by omega)))
  exact ⟨h5, ad, rfl, h6.modI hf hcs hm⟩
theorem recs2_mod {w w' : World} {v : Value} {l : List TxD} {g : Nat} {cs : List Value} (h : Recs 2 TxR w v l) (hf : Fs w g cs) (hcs : ∀ u ∈ cs, ∀ z, u ≠ .int .i64 z) (hm : Mod (fun k => k = g) w w') : Recs 2 TxR w' v l :=
  recs_modI h hf hcs hm (fun row d hr => ⟨d.id, _, hr.1⟩) fun _ _ h => h
theorem BlkD.Right.rawG {b : BlkD} (h : b.Right) (hp : I64 b.parent) : b.Raw :=
  ⟨by have := h.s; omega, by have := h.m; omega, by have := h.v; omega, hp, fun x hx => by
    obtain ⟨h1, h2, h3, h4⟩ := h.t.right x hx
    exact ⟨by omega, by omega⟩⟩
theorem recs5_mod {w w' : World} {v : Value} {l : List BlkD} {g : Nat} {cs : List Value} (h : Recs 5 BlkR w v l) (hf : Fs w g cs) (hcs : ∀ u ∈ cs, ∀ z, u ≠ .int .i64 z) (hm : Mod (fun k => k = g) w w') : Recs 5 BlkR w' v l :=
  recs_modI h hf hcs hm (fun row d hr => by obtain ⟨⟨u, rfl, _⟩, _⟩ := hr; exact ⟨_, _, rfl⟩) fun row d hr => by
    obtain ⟨⟨u, e, hu⟩, hraw⟩ := hr
    exact ⟨⟨u, e, recs2_mod hu hf hcs hm⟩, hraw⟩
theorem noI3 {a b c : Value} (ha : ∀ z, a ≠ .int .i64 z) (hb : ∀ z, b ≠ .int .i64 z) (hc : ∀ z, c ≠ .int .i64 z) : ∀ u ∈ [a, b, c], ∀ z, u ≠ .int .i64 z := by
  intro u hu; simp at hu; rcases hu with rfl | rfl | rfl
  · exact ha
  · exact hb
  · exact hc
theorem Row.tight {F : Nat → Prop} {w : World} {e : TypeId} {v : Value} {xs : List Value} (h : Row F w e v xs) : Row (fun k => F k ∧ k < w.heap.size) w e v xs := ⟨h.own, fun k hk => ⟨h.inF k hk, h.lt hk⟩⟩
theorem w_byidx {ops : Array Oper} {rest : List Oper} {o : Oper} {a : Act} {Q : Exit → Act → World → Prop} {w W0 : World} {v : Value} {ls : List (List Nat)} (x y : Operand) (i : Nat) (hgd : o.guard = none) (ho : o.op = .indexAddr 29 x y) (hv : a.eval x = v) (hy : a.eval y = .int .i64 i)
    (h : Recs 1 BytOk W0 v ls) (he : Ext W0 w) {l : List Nat} (hd : ls[i]? = some l) (k : ∀ p u, RowAt w p [u] → Byt W0 u l → wpList Try.prog ops Q rest (a.put o.dst (.pointer (some p))) w) : wpList Try.prog ops Q (o :: rest) a w := by
  have hi := (List.getElem?_eq_some_iff.1 hd).1
  have e : ls[i] = l := (List.getElem?_eq_some_iff.1 hd).2
  refine w_ridx0 Try.elBBS x y i BytOk.stays hgd ho hv hy h he hi ?_
  rintro pa row hrow _ ⟨⟨u, rfl, hu⟩, _⟩
  rw [e] at hu
  exact k pa u (hrow.ext he) hu
/-- What was said, in memory: the list and its texts lie in F. -/
def SdF (F : Nat → Prop) (w : World) (v : Value) (ls : List (List Nat)) : Prop := ∃ us, Sl w v us ∧ (∀ k, v.ownBlock = some k → F k) ∧ us.length = ls.length ∧ ∀ (i : Nat) (u : Value) (l : List Nat), us[i]? = some u → ls[i]? = some l → BytOk w [u] l ∧ ∀ k, u.ownBlock = some k → F k
theorem SdF.recs {F : Nat → Prop} {w : World} {v : Value} {ls : List (List Nat)} (h : SdF F w v ls) : Recs 1 BytOk w v ls := by
  obtain ⟨us, h1, _, h2, h3⟩ := h; exact bb_of_sl h1 h2 fun i u l a b => (h3 i u l a b).1
theorem SdF.of {w : World} {v : Value} {ls : List (List Nat)} (h : Recs 1 BytOk w v ls) : SdF (fun _ => True) w v ls := by
  obtain ⟨us, h1, h2, h3⟩ := sl_of_bb h; exact ⟨us, h1, fun _ _ => trivial, h2, fun i u l a b => ⟨h3 i u l a b, fun _ _ => trivial⟩⟩
theorem SdF.mono {F G : Nat → Prop} {w : World} {v : Value} {ls : List (List Nat)} (h : SdF F w v ls) (hs : ∀ k, F k → G k) : SdF G w v ls := by
  obtain ⟨us, h1, h0, h2, h3⟩ := h; exact ⟨us, h1, fun k hk => hs k (h0 k hk), h2, fun i u l a b => ⟨(h3 i u l a b).1, fun k hk => hs k ((h3 i u l a b).2 k hk)⟩⟩
theorem SdF.ext {F : Nat → Prop} {w w' : World} {v : Value} {ls : List (List Nat)} (h : SdF F w v ls) (hx : Ext w w') : SdF F w' v ls := by
  obtain ⟨us, h1, h0, h2, h3⟩ := h; exact ⟨us, h1.ext hx, h0, h2, fun i u l a b => ⟨BytOk.stays _ _ _ _ (h3 i u l a b).1 hx, (h3 i u l a b).2⟩⟩
theorem SdF.mod {F G : Nat → Prop} {w w' : World} {v : Value} {ls : List (List Nat)} (h : SdF F w v ls) (hm : Mod G w w') (hd : ∀ k, F k → ¬ G k) : SdF F w' v ls := by
  obtain ⟨us, h1, h0, h2, h3⟩ := h
  refine ⟨us, Sl.mod h1 hm fun k hk => hd k (h0 k hk), h0, h2, fun i u l a b => ?_⟩
  obtain ⟨⟨⟨u', e, hb⟩, h4⟩, h5⟩ := h3 i u l a b
  injection e with e; subst e
  exact ⟨⟨⟨_, rfl, Sl.mod hb hm fun k hk => hd k (h5 k hk)⟩, h4⟩, h5⟩
theorem SdF.more {F : Nat → Prop} {w : World} {v u : Value} {us : List Value} {ls : List (List Nat)} {x : List Nat} (h : Sl w v (us ++ [u])) (hv : ∀ k, v.ownBlock = some k → F k) (hl : us.length = ls.length) (hu : ∀ (i : Nat) (u : Value) (l : List Nat), us[i]? = some u → ls[i]? = some l → BytOk w [u] l ∧ ∀ k, u.ownBlock = some k → F k) (hx : BytOk w [u] x) (hF : ∀ k, u.ownBlock = some k → F k) : SdF F w v (ls ++ [x]) :=
  ⟨us ++ [u], h, hv, by simp [hl], fun i y l hi hd => by
    by_cases hil : i < us.length
    · rw [List.getElem?_append_left hil] at hi
      rw [List.getElem?_append_left (by omega)] at hd
      exact hu i y l hi hd
    · rw [List.getElem?_append_right (by omega)] at hi
      rw [List.getElem?_append_right (by omega)] at hd
      have e : i - us.length = 0 := by
        have := (List.getElem?_eq_some_iff.1 hi).1; simp at this; omega
      rw [← hl, e] at hd
      rw [e] at hi
      simp at hi hd
      subst hi hd
      exact ⟨hx, hF⟩⟩
set_option maxRecDepth 100000 in
set_option maxHeartbeats 3200000 in
theorem refSayF_any {F : Nat → Prop} {w : World} {vb vs vk vx : Value} {g : GaD} {x : List Nat} (hg0 : RG w vb vs vk g) (hx0 : ∀ c ∈ x, c < 256) (hl0 : x.length ≤ 140737488351232) (hv0 : Byt w vx x) (hfew0 : g.said.length ≤ 1000 ∧ g.kn.length ≤ 1000) (hsd0 : SdF F w vs g.said) :
    Calls Try.prog 13 #[.agg #[vb, vs, vk], vx] w fun e w' => ∃ vs' vk', e = .returned (.agg #[vb, vs', vk']) ∧ RG w' vb vs' vk' (g.say x) ∧ Ext w w' ∧ SdF (fun k => F k ∨ w.heap.size ≤ k ∧ k < w'.heap.size) w' vs' (g.said ++ [x]) := by
  refine calls_keep ?_
  have hg := hide_ hg0
  have hx256 := hide_ hx0
  have hlen := hide_ hl0
  have hv := hide_ hv0
  have hfew := hide_ hfew0
  have hX := Ext.refl w
  have h1s := hide_ (show vb.oneCell' = true ∧ vs.oneCell' = true ∧ vk.oneCell' = true from ⟨hg0.bad.one', hg0.said.oneC, hg0.kn.oneC⟩)
  obtain ⟨us, hsl0, _, husl0, hus0⟩ := hsd0
  have hsl := hide_ hsl0
  have husl := hide_ husl0
  have hus := hide_ hus0
  have hus1 := hide_ (show ∀ u ∈ us, u.oneCell' = true from fun u hu => by
    obtain ⟨i, hi, rfl⟩ := List.getElem_of_mem hu
    obtain ⟨⟨⟨u', e, hb⟩, _⟩, _⟩ := hus0 i _ _ (List.getElem?_eq_getElem hi) (List.getElem?_eq_getElem (by omega))
    injection e with e; rw [e]; exact hb.one')
  clear hsl0 husl0 hus0
  go_enter Try.func13, Try.ntmps13
  go_upto_region 3 with ((first
    | ((with_reducible refine at_box ?_); refine w_box _ [vb, vs, vk] rfl rfl rfl rfl ?_; intro g2 w1 hg2 hx f2; replace hg2 := Nat.le_trans hX.size hg2; replace hX := hX.trans hx; clear hx)
    | ((with_reducible refine at_alloc ?_); refine w_alloc Try.stRG rfl rfl ?_; intro g4 wA hg4 hx f4; have h24 := hide_ (show ¬ g2 = g4 from fun e => by have := f2.lt; omega); replace hg4 := hide_ (Nat.le_trans hX.size hg4); replace f2 := f2.ext hx; have h2A := hide_ f2.lt; have h4A := hide_ f4.lt; replace hX := hX.trans hx; have hXA := hide_ hX; clear hx)
    | ((with_reducible refine at_lit ?_); refine w_new Try.elBB [] rfl rfl rfl (by simp) rfl (by omega) ?_; intro v10 w3 hx o10; have r10 := hide_ (Row.of (F := fun k => wA.heap.size ≤ k) o10 fun k h _ => h); have z10 := hide_ hx.size; replace f2 := f2.ext hx; replace f4 := f4.ext hx; clear o10; replace hX := hX.trans hx; clear hx)
    | ((with_reducible refine at_field ?_); (try refine w_yes _ _ _ rfl rfl rfl ?_); refine w_field Try.stRG _ _ _ rfl rfl rfl (by omega) ?_)
    | ((with_reducible refine at_load ?_); (try refine w_yes _ _ _ rfl rfl rfl ?_); refine w_fload _ rfl rfl rfl f2 rfl (agg_of (by kernel_rfl)) ?_)
    | ((with_reducible refine at_bi ?_); have z11 := z10; refine w_rapp Try.elBB _ _ rfl rfl rfl rfl r10.out (hsl.out.ext hX) hus1.out (by rw [husl.out]; have := hfew.out.1; simp; omega) ?_; intro v13 w13 hm13 r13 _h; have z13 := hide_ (Nat.le_trans z10.out hm13.size); replace r13 := hide_ ((r13.mono (G := fun k => wA.heap.size ≤ k) fun k h => h.elim id fun e => Nat.le_trans z10.out e.1).tight); replace f2 := f2.mod hm13 (fun e => by have := h2A.out; omega); replace f4 := f4.mod hm13 (fun e => by have := h4A.out; omega); replace hX := hm13.after hX (fun i e => Nat.le_trans hXA.out.size e); clear hm13 r10 z10 _h z11)
    | ((with_reducible refine at_lit ?_); refine w_bempty rfl rfl ?_; intro v15 w15 C hC1 hC2 hx o15; replace r13 := hide_ (r13.out.ext hx); have z15 := hide_ hC1; have hC2b := hide_ hC2; replace f2 := f2.ext hx; replace f4 := f4.ext hx; clear hC1 hC2; replace hX := hX.trans hx; clear hx)
    | ((with_reducible refine at_bi ?_); refine appb _ _ rfl rfl rfl rfl o15 (hv.out.ext hX) (by have := hlen.out; simp; omega) hC2b.out ?_; intro v17 w17 o17 hba hga; replace r13 := hide_ (r13.out.mod (Below.toMod hba) (fun k h e => by have h1 := h.2; have h2 := z15.out; omega)); have s17 := hide_ hba.size; replace f2 := f2.below hba (by have h1 := h2A.out; have h2 := z13.out; have h3 := z15.out; omega); replace f4 := f4.below hba (by have h1 := h4A.out; have h2 := z13.out; have h3 := z15.out; omega); have hbb := hide_ (show Byt w17 v17 x from o17.byt); have n17 := hide_ (fun k hk => (own_block_lt (g := k) o17 hk).1); have y17 := hide_ (fun k hk => (own_block_lt (g := k) o17 hk).2); replace hX := (Below.toMod hba).after hX (fun i e => by have h1 := hXA.out.size; have h2 := z13.out; have h3 := z15.out; omega); clear o15 o17 hba hga)
    | ((with_reducible refine at_lit ?_); have z12 := n17; refine w_new Try.elBB [v17] rfl rfl rfl (by intro y hy; rw [List.mem_singleton] at hy; subst hy; exact oneCell_cells hbb.out.one') rfl (by omega) ?_; intro v18 w18 hx o18; replace r13 := hide_ (r13.out.ext hx); replace y17 := hide_ (fun k hk => Nat.lt_of_lt_of_le (y17.out k hk) hx.size); have q18 := hide_ (Sl.of_own o18); replace hbb := hide_ (hbb.out.ext hx); replace f2 := f2.ext hx; replace f4 := f4.ext hx; have z18 := hide_ (show wA.heap.size ≤ w18.heap.size from by have h1 := z13.out; have h2 := z15.out; have h3 := hC2b.out; have h4 := s17.out; have h5 := hx.size; omega); clear o18 z12; replace hX := hX.trans hx; clear hx)
    | ((with_reducible refine at_bi ?_); have z19 := z18; refine w_rapp Try.elBB _ _ rfl rfl rfl rfl r13.out q18.out (by intro y hy; rw [List.mem_singleton] at hy; subst hy; exact hbb.out.one') (by have h1 := husl.out; have h2 := hfew.out.1; simp only [List.nil_append, List.length_cons, List.length_nil, h1]; omega) ?_; intro v19 w19 hm19 r19 _h; replace r19 := hide_ (r19.mono (G := fun k => wA.heap.size ≤ k) fun k h => h.elim (fun e => e.1) fun e => Nat.le_trans z18.out e.1); replace hbb := hide_ (show Byt w19 v17 x from Sl.mod hbb.out hm19 (fun k hk e => by have h1 := n17.out k hk; have h2 := e.2; have h3 := z15.out; omega)); replace f2 := f2.mod hm19 (fun e => by have h1 := h2A.out; have h2 := e.1; omega); replace f4 := f4.mod hm19 (fun e => by have h1 := h4A.out; have h2 := e.1; omega); replace hX := hm19.after hX (fun i e => Nat.le_trans hXA.out.size e.1); replace y17 := hide_ (fun k hk => Nat.lt_of_lt_of_le (y17.out k hk) hm19.size); clear hm19 r13 q18 z19 _h)
    | ((with_reducible refine at_store ?_); refine w_fstore _ _ (u := v19) rfl rfl rfl rfl rfl f2 (by simp) (oneCell_cells r19.out.sl.one') r19.out.sl.one' (by kernel_rfl) ?_; intro w20 hm20 f20; have h191 := hide_ r19.out.sl.one'; replace r19 := hide_ (r19.out.mod hm20 (fun k h e => by have := h2A.out; omega)); replace hbb := hide_ (show Byt w20 v17 x from Sl.mod hbb.out hm20 (fun k hk e => by have h1 := n17.out k hk; have h2 := h2A.out; have h3 := z15.out; have h4 := z13.out; omega)); replace f4 := f4.mod hm20 (fun e => h24.out e.symm); replace hX := hm20.after hX (fun i e => e ▸ hg2); clear f2; have f2 : Fs w20 g2 [vb, v19, vk] := f20; replace y17 := hide_ (fun k hk => Nat.lt_of_lt_of_le (y17.out k hk) hm20.size); clear hm20 f20)
    | fail) <;> (try simp only [Act.put, List.setIfInBounds_toArray, List.set_cons_zero, List.set_cons_succ]))
  have hXW := hide_ hX
  have hsdM : Hid (∀ w', Mod (fun k => k = g4) w20 w' → SdF (fun k => F k ∨ w.heap.size ≤ k ∧ k < w'.heap.size) w' v19 (g.said ++ [x])) := hide_ fun w' hm => by
    have hx' := hm.after hX (fun i e => e ▸ hg4.out)
    have hzA := hXA.out.size
    have r := r19.out.mod hm (fun k h e => by have := h4A.out; omega)
    refine SdF.more (us := us) (u := v17) ?_ (fun k hk => .inr ⟨Nat.le_trans hzA (r.inF k hk), r.lt hk⟩) husl.out (fun i y l h1 h2 => ⟨BytOk.stays _ _ _ _ (hus.out i y l h1 h2).1 hx', fun k hk => .inl ((hus.out i y l h1 h2).2 k hk)⟩) ⟨⟨v17, rfl, Sl.mod hbb.out hm fun k hk e => ?_⟩, hx256.out, hlen.out⟩ (fun k hk => .inr ⟨?_, Nat.lt_of_lt_of_le (y17.out k hk) hm.size⟩)
    · have := r.sl
      rw [List.nil_append] at this; exact this
    · have h1 := n17.out k hk; have h2 := h4A.out; have h3 := z15.out; have h4 := z13.out; omega
    · have h1 := n17.out k hk; have h3 := z15.out; have h4 := z13.out; omega
  have hRG : Hid (∀ w', Ext w20 w' → RG w' vb v19 vk (g.tell x)) := hide_ fun w' hx => ⟨(hg.out.ext (hXW.out.trans hx)).bad, (hsdM.out w' (hx.mod _)).recs, (hg.out.ext (hXW.out.trans hx)).kn⟩
  clear hsl husl hus hus1 hXA z13 z15 hC2b s17 hbb n17 y17 z18 r19 h2A h4A hX
  have hX := Ext.refl w20
  replace hg6 := hg4
  cases hrd0 : rdMsg x with
  | none =>
    have hrd := hide_ hrd0
    have hsay := hide_ (GaD.say_none (g := g) hrd0)
    clear hg0 hx0 hl0 hv0 hfew0 hrd0
    go_wp2_with ((first
      | go_big_skip
      | (go_at_call 16; refine (refMRead_any hx256.out (Nat.le_trans hlen.out (by omega)) (hv.out.ext (hXW.out.trans hX))).mono ?_; rintro e w22 ⟨u, rfl, hx, ou0⟩; rw [hrd.out] at ou0 ⊢; rw [show omE none = 121 from rfl, show mOr none = MsgD.zero from rfl]; have ou := hide_ (show OwnT _ w22 u MsgD.zero.bk.txs from ou0); clear ou0; replace f2 := f2.ext hx; replace f4 := f4.ext hx; replace hX := hX.trans hx; clear hx)
      | ((with_reducible refine at_alloc ?_); refine w_agalloc Try.agMsg rfl rfl ?_; intro g6 w23 hg6 hx f6; have n6 := hide_ (fun k hk (e : k = g6) => (by have := ou.out.lt (k := k) hk; omega : False)); have h26 := hide_ (show ¬ g2 = g6 from fun e => by have := f2.lt; omega); have h46 := hide_ (show ¬ g4 = g6 from fun e => by have := f4.lt; omega); replace hg6 := hide_ (Nat.le_trans hX.size hg6); replace ou := hide_ (ou.out.ext hx); replace f2 := f2.ext hx; replace f4 := f4.ext hx; replace hX := hX.trans hx; clear hx)
      | ((with_reducible refine at_store ?_); refine w_agput Try.agMsg (us := mRow MsgD.zero u) _ _ rfl rfl rfl rfl rfl f6 rfl rfl (m_one ou.out.recs.one') ?_; intro w24 hm24 f25; replace f6 := f25; replace ou := hide_ (ou.out.mod hm24 (fun k hk => n6.out k hk)).recs; replace f2 := f2.mod hm24 h26.out; replace f4 := f4.mod hm24 h46.out; replace hX := hm24.after hX (fun i e => e ▸ hg6.out); clear hm24 f25 n6)
      | ((with_reducible refine at_field ?_); (try refine w_yes _ _ _ rfl rfl rfl ?_); refine w_mfield _ _ _ rfl rfl rfl (by omega) ?_)
      | ((with_reducible refine at_load ?_); (try refine w_yes _ _ _ rfl rfl rfl ?_); refine w_fload _ rfl rfl rfl f6 rfl (agg_of (by kernel_rfl)) ?_)
      | ((with_reducible refine at_load ?_); refine w_aload Try.stRG (cs := [vb, v19, vk]) _ rfl rfl rfl f2 rfl ?_)
      | ((with_reducible refine at_store ?_); refine w_astore Try.stRG _ _ (us := [vb, v19, vk]) rfl rfl rfl rfl rfl f4 rfl rfl (by intro y hy; simp at hy; rcases hy with rfl | rfl | rfl; exact h1s.out.1; exact h191.out; exact h1s.out.2.2) ?_; intro w29 hm29 f29; have hXF := hm29.after (hXW.out.trans hX) (fun i e => e ▸ hg4.out); have hsF := hsdM.out w29 ((hX.mod _).trans hm29 (fun i _ e => e)); clear hm29 f4)
      | fail) <;> (try simp only [Act.put, List.setIfInBounds_toArray, List.set_cons_zero, List.set_cons_succ]))
    exact bodyPost_ret (ret_one Try.stRG rfl rfl f29 rfl) rfl (Keep.intro ⟨v19, vk, rfl, by rw [hsay.out]; exact ⟨(hg.out.ext hXF).bad, hsF.recs, (hg.out.ext hXF).kn⟩, hXF, hsF⟩)
  | some m =>
    have hrd := hide_ hrd0
    have hm := GaD.rd_right hx0 hrd0
    have hpar := hide_ (show I64 m.bk.parent from hm.rawG.2)
    by_cases hk : m.kd = 1
    rotate_left
    · have t1 : (m.kd != 1) = true := by simp [hk]
      have hsay := hide_ (GaD.say_oth (g := g) hrd0 hk)
      clear hg0 hx0 hl0 hv0 hfew0 hrd0 hk hm
      go_wp2_with ((first
        | go_big_skip
        | (go_at_call 16; refine (refMRead_any hx256.out (Nat.le_trans hlen.out (by omega)) (hv.out.ext (hXW.out.trans hX))).mono ?_; rintro e w22 ⟨u, rfl, hx, ou0⟩; rw [hrd.out] at ou0 ⊢; rw [show omE (some m) = 0 from rfl, show mOr (some m) = m from rfl]; have ou := hide_ (show OwnT _ w22 u m.bk.txs from ou0); clear ou0; replace f2 := f2.ext hx; replace f4 := f4.ext hx; replace hX := hX.trans hx; clear hx)
        | ((with_reducible refine at_alloc ?_); refine w_agalloc Try.agMsg rfl rfl ?_; intro g6 w23 hg6 hx f6; have n6 := hide_ (fun k hk (e : k = g6) => (by have := ou.out.lt (k := k) hk; omega : False)); have h26 := hide_ (show ¬ g2 = g6 from fun e => by have := f2.lt; omega); have h46 := hide_ (show ¬ g4 = g6 from fun e => by have := f4.lt; omega); replace hg6 := hide_ (Nat.le_trans hX.size hg6); replace ou := hide_ (ou.out.ext hx); replace f2 := f2.ext hx; replace f4 := f4.ext hx; replace hX := hX.trans hx; clear hx)
        | ((with_reducible refine at_store ?_); refine w_agput Try.agMsg (us := mRow m u) _ _ rfl rfl rfl rfl rfl f6 rfl rfl (m_one ou.out.recs.one') ?_; intro w24 hm24 f25; replace f6 := f25; replace ou := hide_ (ou.out.mod hm24 (fun k hk => n6.out k hk)).recs; replace f2 := f2.mod hm24 h26.out; replace f4 := f4.mod hm24 h46.out; replace hX := hm24.after hX (fun i e => e ▸ hg6.out); clear hm24 f25 n6)
        | ((with_reducible refine at_field ?_); (try refine w_yes _ _ _ rfl rfl rfl ?_); refine w_mfield _ _ _ rfl rfl rfl (by omega) ?_)
        | ((with_reducible refine at_load ?_); (try refine w_yes _ _ _ rfl rfl rfl ?_); refine w_fload _ rfl rfl rfl f6 rfl (agg_of (by kernel_rfl)) ?_)
        | ((with_reducible refine at_load ?_); refine w_aload Try.stRG (cs := [vb, v19, vk]) _ rfl rfl rfl f2 rfl ?_)
        | ((with_reducible refine at_store ?_); refine w_astore Try.stRG _ _ (us := [vb, v19, vk]) rfl rfl rfl rfl rfl f4 rfl rfl (by intro y hy; simp at hy; rcases hy with rfl | rfl | rfl; exact h1s.out.1; exact h191.out; exact h1s.out.2.2) ?_; intro w29 hm29 f29; have hXF := hm29.after (hXW.out.trans hX) (fun i e => e ▸ hg4.out); have hsF := hsdM.out w29 ((hX.mod _).trans hm29 (fun i _ e => e)); clear hm29 f4)
        | fail) <;> (try simp only [Act.put, List.setIfInBounds_toArray, List.set_cons_zero, List.set_cons_succ]))
      exact bodyPost_ret (ret_one Try.stRG rfl rfl f29 rfl) rfl (Keep.intro ⟨v19, vk, rfl, by rw [hsay.out]; exact ⟨(hg.out.ext hXF).bad, hsF.recs, (hg.out.ext hXF).kn⟩, hXF, hsF⟩)
    have t1 : (m.kd != 1) = false := by simp [hk]
    have hsay0 := GaD.say_blk (g := g) hrd0 hk
    have hraw := hide_ ((hm.bkOk hk).rawG hm.rawG.2)
    obtain ⟨rows, c, u1, q, hrs0, hl5, hfn0, hq0, hu0, _⟩ := hg0.fnd m.bk.name
    have hR5 : ∀ (k : Nat) (row : List Value) (d : BlkD), rows[k]? = some row → g.kn[k]? = some d → BlkR w row d := fun k row d h1 h2 => by
      obtain ⟨rows', a1, a2, a3⟩ := hg0.kn
      have e := a1.rows_eq hrs0 (by omega)
      subst e; exact a3 k row d h1 h2
    have hrs := hide_ hrs0
    have hrl : Hid (∀ w', Ext w w' → rows.length = g.kn.length ∧ vb.oneCell' = true ∧ v19.oneCell' = true ∧ ∀ (k : Nat) (row : List Value) (d : BlkD), rows[k]? = some row → g.kn[k]? = some d → BlkR w' row d) := hide_ fun w' hx => ⟨hl5, h1s.out.1, h191.out, fun k row d h1 h2 => BlkR.stays _ _ _ _ (hR5 k row d h1 h2) hx⟩
    have hfn := hide_ (show Fnd rows g.kn m.bk.name c u1 q from hfn0)
    have hu1 := hide_ hu0.oneC
    have hfq := hide_ (show ((g.tell x).find m.bk.name).isSome = q from hq0)
    clear hrs0 hfn0 hq0 hu0 hl5 hR5
    clear hg0 hx0 hl0 hv0 hfew0 hrd0 hk hm
    go_wp2_with ((first
      | go_big_skip
      | (go_at_call 16; refine (refMRead_any hx256.out (Nat.le_trans hlen.out (by omega)) (hv.out.ext (hXW.out.trans hX))).mono ?_; rintro e w22 ⟨u, rfl, hx, ou0⟩; rw [hrd.out] at ou0 ⊢; rw [show omE (some m) = 0 from rfl, show mOr (some m) = m from rfl]; have ou := hide_ (show OwnT _ w22 u m.bk.txs from ou0); clear ou0; replace f2 := f2.ext hx; replace f4 := f4.ext hx; replace hX := hX.trans hx; clear hx)
      | ((with_reducible refine at_alloc ?_); refine w_agalloc Try.agMsg rfl rfl ?_; intro g6 w23 hg6 hx f6; have n6 := hide_ (fun k hk (e : k = g6) => (by have := ou.out.lt (k := k) hk; omega : False)); have h26 := hide_ (show ¬ g2 = g6 from fun e => by have := f2.lt; omega); have h46 := hide_ (show ¬ g4 = g6 from fun e => by have := f4.lt; omega); replace hg6 := hide_ (Nat.le_trans hX.size hg6); replace ou := hide_ (ou.out.ext hx); replace f2 := f2.ext hx; replace f4 := f4.ext hx; replace hX := hX.trans hx; clear hx)
      | ((with_reducible refine at_store ?_); refine w_agput Try.agMsg (us := mRow m u) _ _ rfl rfl rfl rfl rfl f6 rfl rfl (m_one ou.out.recs.one') ?_; intro w24 hm24 f25; replace f6 := f25; replace ou := hide_ (ou.out.mod hm24 (fun k hk => n6.out k hk)).recs; replace f2 := f2.mod hm24 h26.out; replace f4 := f4.mod hm24 h46.out; replace hX := hm24.after hX (fun i e => e ▸ hg6.out); clear hm24 f25 n6)
      | ((with_reducible refine at_field ?_); (try refine w_yes _ _ _ rfl rfl rfl ?_); refine w_mfield _ _ _ rfl rfl rfl (by omega) ?_)
      | ((with_reducible refine at_load ?_); (try refine w_yes _ _ _ rfl rfl rfl ?_); refine w_fload _ rfl rfl rfl f6 rfl (agg_of (by kernel_rfl)) ?_)
      | ((with_reducible refine at_load ?_); refine w_aload Try.stRG (cs := [vb, v19, vk]) _ rfl rfl rfl f2 rfl ?_)
      | fail) <;> (try simp only [Act.put, List.setIfInBounds_toArray, List.set_cons_zero, List.set_cons_succ]))
    have F2 := f2; have F6 := f6; have hXw := hide_ (hXW.out.trans hX)
    refine wp_region_val [0, 1, 2, 3, 4, 5, 6, 7, 8, 10] (fun i => ([35, 36, 37, 38, 39, 34, 40, 41, 8, 0, 9] : List Nat).getD i 0) (fun i xx => xx = ([(.agg #[vb, v19, vk]), (.pointer (some ⟨g6, 8, none⟩)), (.agg (bRw m.bk u).toArray), (.int .i64 m.bk.name), (.tuple #[.agg #[.int .i64 c.slot, .int .i64 c.miner, .int .i64 c.var, .int .i64 c.parent, u1], .bool q]), (.tuple #[.agg #[.int .i64 c.slot, .int .i64 c.miner, .int .i64 c.var, .int .i64 c.parent, u1], .bool q]), (.agg #[.int .i64 c.slot, .int .i64 c.miner, .int .i64 c.var, .int .i64 c.parent, u1]), (.bool q), undef, undef, (.bool q)] : List Value).getD i undef) 8 9 [.int .i64 0, .int .i64 0, .int .i64 0, .int .i64 0, .slice none 0 0] (fun cs => cs = [.int .i64 c.slot, .int .i64 c.miner, .int .i64 c.var, .int .i64 c.parent, u1]) (by kernel_rfl) (by kernel_rfl) (by kernel_rfl) (by decide) (by decide) (by kernel_rfl) (by intro i hi; show _ < 48; revert i; decide) (by kernel_rfl) (by decide) (by kernel_rfl) ?_ ?_ ?_ ?_
    · intro i hi ha b w' hx hout hdep
      rcases (show i = 0 ∨ i = 1 ∨ i = 2 ∨ i = 3 ∨ i = 4 ∨ i = 5 ∨ i = 6 ∨ i = 7 ∨ i = 10 by simp at hi; omega) with rfl | rfl | rfl | rfl | rfl | rfl | rfl | rfl | rfl
      · have e2 : b.tmps.getD 2 undef = .pointer (some ⟨g2, 0, none⟩) := hout 2 (by decide)
        refine wpOp_of_list rfl ?_
        refine w_aload Try.stRG (.tmp 2) rfl rfl e2 (F2.ext hx) rfl ?_
        exact ⟨_, rfl, rfl, Ext.refl _⟩
      · have e6 : b.tmps.getD 6 undef = .pointer (some ⟨g6, 0, none⟩) := hout 6 (by decide)
        refine wpOp_of_list rfl ?_
        refine w_mfield (.tmp 6) g6 7 rfl rfl e6 (by omega) ?_
        exact ⟨_, rfl, rfl, Ext.refl _⟩
      · have e36 : b.tmps.getD 36 undef = .pointer (some ⟨g6, 8, none⟩) := hdep 1 (by decide) (by decide) (by kernel_rfl)
        refine wpOp_of_list rfl ?_
        refine w_loadN Try.stBlkM (.tmp 36) (bRw m.bk u) rfl rfl e36 (F6.ext hx) rfl (mbk_at m u) ?_
        exact ⟨_, rfl, rfl, Ext.refl _⟩
      · have e37 : b.tmps.getD 37 undef = .agg (bRw m.bk u).toArray := hdep 2 (by decide) (by decide) (by kernel_rfl)
        refine wpOp_call 17 #[.agg (bRw m.bk u).toArray] 38 rfl rfl rfl rfl (fun _ _ => rfl) (by simp only [List.map_toArray, List.map_cons, List.map_nil, Act.eval, e37]) ?_
        refine (refBName_any (b := m.bk) (ou.out.ext TxR.stays (hx)) hpar.out).mono ?_
        rintro e w2 ⟨rfl, hx2⟩
        exact ⟨_, rfl, _, rfl, rfl, hx2⟩
      · have e35 : b.tmps.getD 35 undef = .agg #[vb, v19, vk] := hdep 0 (by decide) (by decide) (by kernel_rfl)
        have e38 : b.tmps.getD 38 undef = .int .i64 m.bk.name := hdep 3 (by decide) (by decide) (by kernel_rfl)
        refine wpOp_call 27 #[.agg #[vb, v19, vk], .int .i64 m.bk.name] 39 rfl rfl rfl rfl (fun _ _ => rfl) (by simp only [List.map_toArray, List.map_cons, List.map_nil, Act.eval, e35, e38]) ?_
        refine (refFind_any (hrs.out.ext (hXw.out.trans hx)) (hrl.out _ (hXw.out.trans hx)) hfn.out).mono ?_
        rintro e w2 ⟨rfl, hx2⟩
        exact ⟨_, rfl, _, rfl, rfl, hx2⟩
      · have e39 : b.tmps.getD 39 undef = .tuple #[.agg #[.int .i64 c.slot, .int .i64 c.miner, .int .i64 c.var, .int .i64 c.parent, u1], .bool q] := hdep 4 (by decide) (by decide) (by kernel_rfl)
        refine wpOp_of_list rfl ?_
        refine w_mvC (.tmp 39) rfl (.inl rfl) e39 ?_
        exact ⟨_, rfl, rfl, Ext.refl _⟩
      · have e34 : b.tmps.getD 34 undef = .tuple #[.agg #[.int .i64 c.slot, .int .i64 c.miner, .int .i64 c.var, .int .i64 c.parent, u1], .bool q] := hdep 5 (by decide) (by decide) (by kernel_rfl)
        refine wpOp_of_list rfl ?_
        refine wpList_runs rfl (runs_extract (x := .tmp 34) rfl e34 rfl) ?_
        exact ⟨_, rfl, rfl, Ext.refl _⟩
      · have e34 : b.tmps.getD 34 undef = .tuple #[.agg #[.int .i64 c.slot, .int .i64 c.miner, .int .i64 c.var, .int .i64 c.parent, u1], .bool q] := hdep 5 (by decide) (by decide) (by kernel_rfl)
        refine wpOp_of_list rfl ?_
        refine wpList_runs rfl (runs_extract (x := .tmp 34) rfl e34 rfl) ?_
        exact ⟨_, rfl, rfl, Ext.refl _⟩
      · have e41 : b.tmps.getD 41 undef = .bool q := hdep 7 (by decide) (by decide) (by kernel_rfl)
        refine wpOp_of_list rfl ?_
        refine w_mvC (.tmp 41) rfl (.inr rfl) e41 ?_
        exact ⟨_, rfl, rfl, Ext.refl _⟩
    · intro b w'
      refine wpOp_of_list rfl ?_
      refine w_allocN Try.stBlkM rfl rfl ?_
      intro g w2 hg hx f
      exact ⟨g, rfl, hg, hx, f⟩
    · intro b w' g hx e8 f hdep
      have e40 : b.tmps.getD 40 undef = .agg #[.int .i64 c.slot, .int .i64 c.miner, .int .i64 c.var, .int .i64 c.parent, u1] := hdep 6 (by decide) (by decide) (by kernel_rfl)
      refine wpOp_of_list rfl ?_
      refine w_astoreN Try.stBlkM (.tmp 8) (.tmp 40) (us := [.int .i64 c.slot, .int .i64 c.miner, .int .i64 c.var, .int .i64 c.parent, u1]) rfl rfl rfl e8 e40 f rfl rfl (blk_one hu1.out) ?_
      intro w2 hm f2
      exact ⟨_, rfl, hm, f2, rfl⟩
    intro w8 xx hx8 hv hc
    obtain ⟨g8, cs, eal, hg8, f8, rfl⟩ := hc
    have ek10 : xx 10 = .bool q := hv 10 (by decide) (by decide)
    simp only [List.foldl_cons, List.foldl_nil, eal, ek10]
    generalize xx 0 = x100
    generalize xx 1 = x101
    generalize xx 2 = x102
    generalize xx 3 = x103
    generalize xx 4 = x104
    generalize xx 5 = x105
    generalize xx 6 = x106
    generalize xx 7 = x107
    simp only [List.getD_cons_zero, List.getD_cons_succ, Act.put, List.setIfInBounds_toArray, List.set_cons_zero, List.set_cons_succ]
    clear hv eal ek10
    replace hX := hX.trans hx8
    replace f2 := f2.ext hx8
    replace f4 := f4.ext hx8
    replace f6 := f6.ext hx8
    replace ou := hide_ (ou.out.ext TxR.stays hx8)
    clear hx8 f8 hg8 F2 F6 hXw
    cases q with
    | true =>
      have hsay := hide_ (show g.say x = g.tell x from by rw [hsay0, GaD.learn_yes hfq.out])
      clear hsay0
      go_wp2_with ((first
        | go_big_skip
        | ((with_reducible refine at_load ?_); refine w_aload Try.stRG (cs := [vb, v19, vk]) _ rfl rfl rfl f2 rfl ?_)
        | ((with_reducible refine at_store ?_); refine w_astore Try.stRG _ _ (us := [vb, v19, vk]) rfl rfl rfl rfl rfl f4 rfl rfl (by intro y hy; simp at hy; rcases hy with rfl | rfl | rfl; exact h1s.out.1; exact h191.out; exact h1s.out.2.2) ?_; intro w29 hm29 f29; have hXF := hm29.after (hXW.out.trans hX) (fun i e => e ▸ hg4.out); have hsF := hsdM.out w29 ((hX.mod _).trans hm29 (fun i _ e => e)); clear hm29 f4)
        | fail) <;> (try simp only [Act.put, List.setIfInBounds_toArray, List.set_cons_zero, List.set_cons_succ]))
      exact bodyPost_ret (ret_one Try.stRG rfl rfl f29 rfl) rfl (Keep.intro ⟨v19, vk, rfl, by rw [hsay.out]; exact ⟨(hg.out.ext hXF).bad, hsF.recs, (hg.out.ext hXF).kn⟩, hXF, hsF⟩)
    | false =>
      have hsay := hide_ (show g.say x = (g.tell x).know m.bk from by rw [hsay0, GaD.learn_no (by have := hfq.out; cases hh : (g.tell x).find m.bk.name with | none => rfl | some y => rw [hh] at this; cases this)])
      clear hsay0
      go_wp2_with ((first
        | go_big_skip
        | ((with_reducible refine at_load ?_); refine w_aload Try.stRG (cs := [vb, v19, vk]) _ rfl rfl rfl f2 rfl ?_)
        | ((with_reducible refine at_field ?_); (try refine w_yes _ _ _ rfl rfl rfl ?_); refine w_mfield _ _ _ rfl rfl rfl (by omega) ?_)
        | ((with_reducible refine at_load ?_); (try refine w_yes _ _ _ rfl rfl rfl ?_); refine w_loadN Try.stBlkM _ (bRw m.bk u) rfl rfl rfl f6 rfl (mbk_at m u) ?_)
        | (go_at_call 28; refine (refKnow_any (hRG.out _ hX) ou.out hraw.out hfew.out.2).mono ?_; rintro e w26 ⟨vk', rfl, hRG26, hx⟩; have hk1 := hide_ hRG26.kn.oneC; have hkn := hide_ hRG26.kn; clear hRG26; replace f2 := f2.ext hx; replace f4 := f4.ext hx; replace hX := hX.trans hx; clear hx)
        | ((with_reducible refine at_store ?_); refine w_astore Try.stRG _ _ (us := [vb, v19, vk']) rfl rfl rfl rfl rfl f4 rfl rfl (by intro y hy; simp at hy; rcases hy with rfl | rfl | rfl; exact h1s.out.1; exact h191.out; exact hk1.out) ?_; intro w29 hm29 f29; have hXF := hm29.after (hXW.out.trans hX) (fun i e => e ▸ hg4.out); have hsF := hsdM.out w29 ((hX.mod _).trans hm29 (fun i _ e => e)); have hkF := recs5_mod hkn.out f4 (noI3 (fun _ e => nomatch e) (fun _ e => nomatch e) (fun _ e => nomatch e)) hm29; clear hm29 f4)
        | fail) <;> (try simp only [Act.put, List.setIfInBounds_toArray, List.set_cons_zero, List.set_cons_succ]))
      exact bodyPost_ret (ret_one Try.stRG rfl rfl f29 rfl) rfl (Keep.intro ⟨v19, vk', rfl, by rw [hsay.out]; exact ⟨(hg.out.ext hXF).bad, hsF.recs, hkF⟩, hXF, hsF⟩)
theorem refSay_any {w : World} {vb vs vk vx : Value} {g : GaD} {x : List Nat} (hg0 : RG w vb vs vk g) (hx0 : ∀ c ∈ x, c < 256) (hl0 : x.length ≤ 140737488351232) (hv0 : Byt w vx x) (hfew0 : g.said.length ≤ 1000 ∧ g.kn.length ≤ 1000) :
    Calls Try.prog 13 #[.agg #[vb, vs, vk], vx] w fun e w' => ∃ vs' vk', e = .returned (.agg #[vb, vs', vk']) ∧ RG w' vb vs' vk' (g.say x) ∧ Ext w w' := by
  refine (refSayF_any hg0 hx0 hl0 hv0 hfew0 (SdF.of hg0.said)).mono ?_
  rintro e w' ⟨vs', vk', rfl, h1, h2, _⟩; exact ⟨vs', vk', rfl, h1, h2⟩
end Go.Proofs.Ytgbhbifdfcfamaa
