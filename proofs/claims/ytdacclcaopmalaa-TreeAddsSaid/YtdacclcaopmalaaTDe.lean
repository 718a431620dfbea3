/- The document's tree of blocks: one more block, and those that waited for it. -/
import Derived.Test.YtdacclcaopmalaaTDd
namespace Go.Proofs.Ytdacclcaopmalaa
set_option maxRecDepth 100000
open Go.RowKit Go.ChangeShapes Go.WideShapes Go.ChangeAt

section
variable {Wr W0 w w' : World} {S : Nat → Prop} {g2 g4 : Nat} {vk vw v12 v14 : Value} {K V R : List BlkD} {o : List Int}
theorem St8.init {vk1 : Value} {rows1 : List (List Value)} {K1 : List BlkD} (f2 : Fs w g2 [vk1, vw]) (f4 : Fs w g4 zero2) (s1 : SlS w vk1 5 rows1) (b1 : RowsB Wr rows1 K1) (n1 : ∀ k, vk1.ownBlock = some k → W0.heap.size ≤ k ∧ k ≠ g2 ∧ k ≠ g4) (hV : KP Wr S W0 vw V) (er : Ext Wr W0) (hX : Ext W0 w) (hg2 : W0.heap.size ≤ g2) (hg4 : W0.heap.size ≤ g4) (h24 : g2 ≠ g4) (hx : Ext w w') (o12 : OwnI w.heap.size w' v12 o) : St8 Wr W0 S w' g2 g4 vk1 vw v12 (.slice none 0 0) K1 V [] o := by
  have l2 := f2.lt; have l4 := f4.lt; have hs := hX.size
  have key : ∀ k, v12.ownBlock = some k → w.heap.size ≤ k := fun k hk => (own_block_lt (g := k) o12 hk).1
  have hS1 : KP Wr (fun k => (S k ∨ W0.heap.size ≤ k) ∧ k ≠ g2 ∧ k ≠ g4) w vk1 K1 := KP.new s1 b1 fun k hk => ⟨.inr (n1 k hk).1, (n1 k hk).2.1, (n1 k hk).2.2⟩
  have hS2 : KP Wr (fun k => (S k ∨ W0.heap.size ≤ k) ∧ k ≠ g2 ∧ k ≠ g4) w vw V := (hV.mono fun k hk hs' => ⟨.inl hs', by omega, by omega⟩).ext hX
  have hse : ∀ k, k < w.heap.size → ((S k ∨ W0.heap.size ≤ k) ∧ k ≠ g2 ∧ k ≠ g4) → (S k ∨ W0.heap.size ≤ k) ∧ k ≠ g2 ∧ k ≠ g4 ∧ v12.ownBlock ≠ some k ∧ (Value.slice none 0 0).ownBlock ≠ some k := fun k hk ⟨z, a, b⟩ => ⟨z, a, b, fun e => by have := key k e; omega, by simp [Value.ownBlock]⟩
  exact ⟨f2.ext hx, f4.ext hx, (hS1.mono hse).ext hx, (hS2.mono hse).ext hx, own_mono o12 hs, fun k hk => by have := key k hk; exact ⟨by omega, by omega, by simp [Value.ownBlock]⟩, ⟨[], RowN.nil _ _ _, rfl, by simp⟩, fun k hk => by simp [Value.ownBlock] at hk, hX.trans hx, er, hg2, hg4, h24⟩
theorem St8.qlen (h : St8 Wr W0 S w g2 g4 vk vw v12 v14 K V R o) : qlen w g2 = V.length := by
  obtain ⟨rows, ⟨A, c, rfl, _⟩, hl, _⟩ := h.kv
  unfold Go.Proofs.Ytdacclcaopmalaa.qlen
  rw [h.f2.cell (i := 1) rfl]
  exact hl.len
theorem St8.done (h : St8 Wr W0 S w g2 g4 vk vw v12 v14 K V R o) (hm : Mod (fun k => k = g4) w w') : KP Wr (fun k => S k ∨ W0.heap.size ≤ k) w' vk K ∧ KP Wr (fun k => S k ∨ W0.heap.size ≤ k) w' vw V ∧ OwnI W0.heap.size w' v12 o ∧ Ext W0 w' := by
  have hX : Ext W0 w' := hm.after h.ext fun i hi => by subst hi; exact h.hg4
  have h1 := h.kk.swap (S' := fun k => S k ∨ W0.heap.size ≤ k) hm fun k _ hs => ⟨hs.2.2.1, hs.1⟩
  have h2 := h.kv.swap (S' := fun k => S k ∨ W0.heap.size ≤ k) hm fun k _ hs => ⟨hs.2.2.1, hs.1⟩
  have h3 : OwnI W0.heap.size w' v12 o := own_mod h.o12 hm fun k hk => (h.n12 k hk).2.1
  exact ⟨h1, h2, h3, hX⟩
theorem St8.grown {vk3 : Value} {rows3 : List (List Value)} {K3 : List BlkD} (h : St8 Wr W0 S w g2 g4 vk vw v12 v14 K V R o) (s3 : SlS w' vk3 5 rows3) (b3 : RowsB Wr rows3 K3) (n3 : ∀ k, vk3.ownBlock = some k → w.heap.size ≤ k) : KP Wr (fun k => (S k ∨ W0.heap.size ≤ k) ∧ k ≠ g2 ∧ k ≠ g4 ∧ v12.ownBlock ≠ some k ∧ v14.ownBlock ≠ some k) w' vk3 K3 := by
  have l2 := h.f2.lt; have l4 := h.f4.lt; have hs := h.ext.size
  exact KP.new s3 b3 fun k hk => by
    have h1 := n3 k hk
    exact ⟨.inr (by omega), by omega, by omega, fun e => by have := (own_block_lt (g := k) h.o12 e).2; omega, fun e => by have := h.lt14 e; omega⟩
theorem St8.two (h : St8 Wr W0 S w g2 g4 vk vw v12 v14 K V R o) : ∀ u ∈ [vk, vw], u.oneCell' = true := two_one h.kk.one h.kv.one
end
/-- &l[i] of blocks that stay. -/
theorem w_kidx {P : Program} {ops : Array Oper} {rest : List Oper} {o : Oper} {a : Act} {Q : Exit → Act → World → Prop} {w W0 : World} {S : Nat → Prop} {t e : TypeId} {v : Value} {l : List BlkD} (E : ElS P t e 5) (x y : Operand) (i : Nat) (hgd : o.guard = none) (ho : o.op = .indexAddr t x y) (hv : a.eval x = v) (hy : a.eval y = .int .i64 i)
    (h : KP W0 S w v l) {d : BlkD} (hd : l[i]? = some d) (k : ∀ p u, RowAt w p (bRow d u) → Recs 2 TxR W0 u d.txs → d.Raw → wpList P ops Q rest (a.put o.dst (.pointer (some p))) w) : wpList P ops Q (o :: rest) a w := by
  obtain ⟨rows, h1, h2, _⟩ := h
  have hi := (List.getElem?_eq_some_iff.1 hd).1
  have e : l[i] = d := (List.getElem?_eq_some_iff.1 hd).2
  refine w_ridx (R := fun _ row d => BlkR W0 row d) E x y i hgd ho hv hy ⟨rows, h1, h2.len, h2.at_⟩ hi ?_
  rintro pa row hrow _ ⟨⟨u, rfl, hu⟩, hraw⟩
  rw [e] at hrow hu hraw
  exact k pa u hrow hu hraw

set_option maxRecDepth 100000 in
set_option maxHeartbeats 6400000 in
theorem refAdd_c4 {Wr w : World} {S : Nat → Prop} {vk vw u : Value} {K V : List BlkD} {b : BlkD} (er : Ext Wr w) (hKP : KP Wr S w vk K) (hVP : KP Wr S w vw V) (hV16 : V.length ≤ 16) (hur0 : Recs 2 TxR Wr u b.txs) (hraw0 : b.Raw) (hc : ¬ (b.name = 0 ∨ TrS.has K b.name = true ∨ TrS.has V b.name = true)) (hrd : TrS.ready K b = true) (hk400 : K.length < 400) :
    Calls Try.prog 26 #[.agg #[vk, vw], .agg (bRow b u).toArray] w fun e w' => ∃ vk' vw' v', e = .returned (.tuple #[.agg #[vk', vw'], v', .bool true]) ∧ KP Wr (fun k => S k ∨ w.heap.size ≤ k) w' vk' (TrS.drain V.length (K ++ [b]) V [b.name]).1 ∧ KP Wr (fun k => S k ∨ w.heap.size ≤ k) w' vw' (TrS.drain V.length (K ++ [b]) V [b.name]).2.1 ∧ OwnI w.heap.size w' v' (TrS.drain V.length (K ++ [b]) V [b.name]).2.2 ∧ Ext w w' := by
  refine calls_keep ?_
  have hK0 := hKP.recs er
  have hV0 := hVP.recs er
  have hu0 := hur0.ext TxR.stays er
  have hur := hide_ hur0
  replace hVP := hide_ hVP
  have hVone := hV0.one'
  have hK := hide_ hK0
  have hV := hide_ hV0
  have hu := hide_ hu0
  have hraw := hide_ hraw0
  obtain ⟨rows, hs0, hB0, _⟩ := hKP
  have hB := hide_ hB0
  have hs := hide_ hs0
  obtain ⟨nm, hnm⟩ : ∃ n, b.name = n := ⟨_, rfl⟩
  rw [hnm] at hc ⊢
  have c1 : (nm == 0) = false := by simpa using fun e => hc (.inl e)
  have hq : TrS.has K nm = false := by simpa using fun e => hc (.inr (.inl e))
  have hr : decide (nm ∈ V.map BlkD.name) = false := by rw [in_has]; simpa using fun e => hc (.inr (.inr e))
  have hnm' := hide_ hnm
  have hq' := hide_ hq
  have hr' := hide_ hr
  have hrd' := hide_ hrd
  obtain ⟨D, hD⟩ : ∃ D, TrS.drain V.length (K ++ [b]) V [nm] = D := ⟨_, rfl⟩
  rw [hD]
  have hD' := hide_ hD
  have hK1 := hide_ (show (K ++ [b]).length ≤ 400 by simp; omega)
  clear hu0 hur0 hK0 hraw0 hnm hq hr hrd hc hs0 hB0 hV0 hD
  go_enter Try.func26, Try.ntmps26
  go_wp2_with ((first
    | ((with_reducible refine at_box ?_); refine w_box _ [vk, vw] rfl rfl rfl rfl ?_; intro g2 w1 hg2 hX f2)
    | ((with_reducible refine at_box ?_); refine w_box _ (bRow b u) rfl rfl rfl rfl ?_; intro g3 w2 hg3 hx2 f3; replace f2 := f2.ext hx2; replace hX := hX.trans hx2; clear hx2)
    | ((with_reducible refine at_alloc ?_); refine w_alloc Try.stDoc rfl rfl ?_; intro g4 w2 hg4 hx2 f4; have hg24 := hide_ (show g2 ≠ g4 from fun e => by have := f2.lt; omega); replace f2 := f2.ext hx2; replace f3 := f3.ext hx2; replace hg4 := Nat.le_trans hX.size hg4; replace hX := hX.trans hx2; clear hx2)
    | (go_at_call 35; have _t := f2; refine (refBName_any (b := b) (hu.out.ext TxR.stays hX) hraw.out.parent).mono ?_; rintro e w4 ⟨rfl, hx⟩; rw [hnm'.out]; replace f2 := f2.ext hx; replace f3 := f3.ext hx; replace f4 := f4.ext hx; replace hX := hX.trans hx; clear hx)
    | (go_at_call 36; refine (refGet_any (vw := vw) (n := nm) (hK.out.ext BlkR.stays hX)).mono ?_; rintro e w4 ⟨u12, rfl, hu12, hr12, hx⟩; rw [hq'.out]; have hone12 := blk_one (a := (getOr K nm).slot) (b := (getOr K nm).miner) (c := (getOr K nm).var) (d := (getOr K nm).parent) hu12.one'; clear hr12 hu12; replace f2 := f2.ext hx; replace f3 := f3.ext hx; replace f4 := f4.ext hx; replace hX := hX.trans hx; clear hx)
    | ((with_reducible refine at_alloc ?_); refine w_alloc Try.stBlk rfl rfl ?_; intro g8 w2 hg8 hx f8)
    | ((with_reducible refine at_store ?_); refine w_astore Try.stBlk _ _ (us := bRow (getOr K nm) u12) rfl rfl rfl rfl rfl f8 rfl rfl hone12 ?_; intro w3 hm3 f9; replace hx := hm3.after hx (fun i hi => by subst hi; exact hg8); clear f9 hm3 f8 hg8 hone12; replace f2 := f2.ext hx; replace f3 := f3.ext hx; replace f4 := f4.ext hx; replace hX := hX.trans hx; clear hx)
    | (go_at_call 29; refine (refWaiting_any (vk := vk) (hV.out.ext BlkR.stays hX) hV16).mono ?_; rintro e w4 ⟨v34, rfl, o34, hx⟩; replace o34 := o34.ints; replace f2 := f2.ext hx; replace f3 := f3.ext hx; replace f4 := f4.ext hx; replace hX := hX.trans hx; clear hx)
    | (go_at_call 57; refine (refIn_any (n := nm) o34).mono ?_; rintro e w4 ⟨rfl, hx⟩; rw [hr'.out]; clear o34; replace f2 := f2.ext hx; replace f3 := f3.ext hx; replace f4 := f4.ext hx; replace hX := hX.trans hx; clear hx)
    | (go_at_call 58; refine (refReady_any (b := b) (hK.out.ext BlkR.stays hX) hu.out.one').mono ?_; rintro e w4 ⟨rfl, hx⟩; rw [hrd'.out]; replace f2 := f2.ext hx; replace f3 := f3.ext hx; replace f4 := f4.ext hx; replace hX := hX.trans hx; clear hx)
    | (go_at_call 59; refine (refGrow_yes (b := b) (u := u) (er.trans hX) (hs.out.ext hX) hB.out hVone hk400 hur.out hraw.out).mono ?_; rintro e w4 ⟨vk1, rows1, rfl, s1, b1, n1, hx⟩; have n1' := hide_ (show ∀ k, vk1.ownBlock = some k → w.heap.size ≤ k ∧ k ≠ g2 ∧ k ≠ g4 from fun k hk => by have h1 := n1 k hk; have h2 := f2.lt; have h4 := f4.lt; have h5 := hX.size; exact ⟨by omega, by omega, by omega⟩); have one1 := two_one (slS_cell s1).2 hVone; clear n1; replace f2 := f2.ext hx; replace f3 := f3.ext hx; replace f4 := f4.ext hx; replace hX := hX.trans hx; clear hx)
    | ((with_reducible refine at_load ?_); (try refine w_yes _ _ _ rfl rfl rfl ?_); refine w_aload Try.stDoc _ rfl rfl rfl f2 rfl ?_)
    | ((with_reducible refine at_load ?_); (try refine w_yes _ _ _ rfl rfl rfl ?_); refine w_aload Try.stBlk _ rfl rfl rfl f3 rfl ?_)
    | ((with_reducible refine at_store ?_); refine w_astore Try.stDoc _ _ (us := [vk1, vw]) rfl rfl rfl rfl rfl f2 rfl rfl one1 ?_; intro w3 hm3 f9; replace f2 : Fs w3 g2 [vk1, vw] := f9; replace f4 := f4.mod hm3 (fun e => hg24.out e.symm); replace s1 := s1.mod hm3 (fun k hk => (n1'.out k hk).2.1); replace hX := hm3.after hX (fun i hi => by subst hi; exact hg2); clear hm3 f9 one1 f3)
    | ((with_reducible refine at_lit ?_); refine w_new Try.elI (i64s [nm]) rfl rfl rfl (i64s_cells _) rfl (by omega) ?_; intro v12 w5 hx o12; have hS := St8.init f2 f4 s1 b1 n1'.out hVP.out er hX hg2 hg4 hg24.out hx o12; clear hx o12 s1 b1 n1' hX f2 f4)
    | fail) <;> (try simp only [Act.put, List.setIfInBounds_toArray, List.set_cons_zero, List.set_cons_succ]))
  go_loopw [12, 13] (fun u12 u13 wr => ∃ (bo : Bool) (K' V' : List BlkD) (o : List Int) (f : Nat) (vk' vw' : Value), u13 = .bool bo ∧ St8 Wr w S wr g2 g4 vk' vw' u12 (.slice none 0 0) K' V' [] o ∧ V'.length ≤ 16 ∧ K'.length ≤ 400 ∧ o.length + V'.length ≤ 17 ∧ (bo = true → V'.length ≤ f ∧ TrS.drain f K' V' o = D) ∧ (bo = false → (K', V', o) = D)) (fun _ u13 wr => okn u13 + qlen wr g2)
  case atStart => exact ⟨true, K ++ [b], V, [nm], V.length, vk1, vw, rfl, hS, hV16, hK1.out, by simp; omega, fun _ => ⟨Nat.le_refl _, hD'.out⟩, fun h => by cases h⟩
  case round =>
    clear hS
    obtain ⟨bo, K', V', o, f, vk', vw', rfl, hS, hV1, hK2, ho17, hbt, hbf⟩ := hrel
    cases bo
    · obtain rfl := hbf rfl
      have hone := hS.two
      clear hbt hbf
      go_wp2_with ((first
        | ((with_reducible refine at_load ?_); (try refine w_yes _ _ _ rfl rfl rfl ?_); refine w_aload Try.stDoc _ rfl rfl rfl hS.f2 rfl ?_)
        | ((with_reducible refine at_store ?_); refine w_astore Try.stDoc _ _ (us := [vk', vw']) rfl rfl rfl rfl rfl hS.f4 rfl rfl hone ?_; intro w3 hm3 f9; have hfin := hS.done hm3; clear hm3 hS)
        | fail) <;> (try simp only [Act.put, List.setIfInBounds_toArray, List.set_cons_zero, List.set_cons_succ]))
      obtain ⟨h1, h2, h3, hX⟩ := hfin
      exact bodyPost_ret (ret_3 Try.stDoc rfl rfl rfl rfl f9 rfl) rfl (Keep.intro ⟨vk', vw', _, rfl, h1, h2, h3, hX⟩)
    obtain ⟨hf, hdr⟩ := hbt rfl
    have hq0 := hide_ hS.qlen
    have hdr' := hide_ hdr
    clear hbt hbf hdr
    go_wp2_with ((first
      | ((with_reducible refine at_lit ?_); refine w_nnew Try.enBlk [] rfl rfl rfl (by simp) rfl (by omega) ?_; intro v14 w5 B hB1 hB2 hx r14; replace hS := hS.fresh hx hB1 r14; clear hx hB1 hB2 r14)
      | ((with_reducible refine at_field ?_); refine w_field Try.stDoc _ _ _ rfl rfl rfl (by omega) ?_)
      | ((with_reducible refine at_load ?_); refine w_fload _ rfl rfl rfl hS.f2 rfl (agg_of (by kernel_rfl)) ?_)
      | ((with_reducible refine at_bi ?_); refine w_rlen Try.enBlk.elS _ rfl rfl rfl (hS.kv.recs hS.extr) ?_)
      | fail) <;> (try simp only [Act.put, List.setIfInBounds_toArray, List.set_cons_zero, List.set_cons_succ]))
    go_loopw [12, 13, 14, 75] (fun u12 u13 u14 i wx => ∃ (j : Nat) (fnd : Bool) (K2 R : List BlkD) (o2 : List Int) (vk2 : Value), i = .int .i64 j ∧ u13 = .bool fnd ∧ j ≤ V'.length ∧ passF K' o (V'.take j) = (K2, R, o2, fnd) ∧ St8 Wr w S wx g2 g4 vk2 vw' u12 u14 K2 V' R o2) (fun _ _ _ i _ => V'.length - (RowKit.intOf i).toNat)
    case atStart => exact ⟨0, false, K', [], o, vk', rfl, rfl, Nat.zero_le _, rfl, hS⟩
    case round =>
      clear hS
      obtain ⟨j, fnd, K2, R, o2, vk2, rfl, rfl, hj, hpass, hS⟩ := hrel
      have hlens := passF_lens hpass hK2
      obtain ⟨hl1, hl2, hl3⟩ := hlens
      rw [List.length_take] at hl2
      have hpass' := hide_ hpass
      by_cases hge : V'.length ≤ j
      · obtain rfl : j = V'.length := by omega
        have t2 : decide (V'.length < V'.length) = false := by simp
        rw [List.take_length] at hpass
        have hpass2 := hide_ hpass
        obtain ⟨rows14, h14, hB14⟩ := hS.r14
        have hc14 := slS_cell h14.slS
        clear hge hpass h14 hB14
        go_wp2_with ((first
          | ((with_reducible refine at_field ?_); refine w_field Try.stDoc _ _ _ rfl rfl rfl (by omega) ?_)
          | ((with_reducible refine at_store ?_); refine w_fstore _ _ rfl rfl rfl rfl rfl hS.f2 (by simp) hc14.1 hc14.2 (by kernel_rfl) ?_; intro w10 hm10 f10; replace hS := hS.close hm10 f10; clear hm10 f10)
          | fail) <;> (try simp only [Act.put, List.setIfInBounds_toArray, List.set_cons_zero, List.set_cons_succ]))
        go_roundw
        case rel =>
          cases fnd
          · obtain ⟨_, rfl, rfl, rfl⟩ := passF_no hpass2.out
            exact ⟨false, _, _, _, 0, _, _, rfl, hS, hV1, hK2, ho17, (fun h => by cases h), fun _ => (drain_no hpass2.out).symm.trans hdr'.out⟩
          · obtain ⟨x, _, hRl, hdf⟩ := passF_yes hpass2.out
            obtain ⟨f', rfl⟩ : ∃ f', f = f' + 1 := ⟨f - 1, by omega⟩
            exact ⟨true, _, _, _, f', _, _, rfl, hS, by omega, hl1, by omega, fun _ => ⟨by omega, (hdf f').symm.trans hdr'.out⟩, fun h => by cases h⟩
        case measure =>
          rw [hS.qlen, hq0.out]
          cases fnd
          · obtain ⟨_, rfl, rfl, rfl⟩ := passF_no hpass2.out
            simp [okn]
          · obtain ⟨x, _, hRl, hdf⟩ := passF_yes hpass2.out
            simp [okn]; omega
      have hlt : j < V'.length := by omega
      have t2 : decide (j < V'.length) = true := by simpa using hlt
      obtain ⟨y, hy0⟩ : ∃ y, V'[j]? = some y := ⟨_, List.getElem?_eq_getElem hlt⟩
      have htk := hide_ (show V'.take (j + 1) = V'.take j ++ [y] by rw [List.take_add_one, hy0]; rfl)
      have hlt' := hide_ hlt
      have hy := hide_ hy0
      have hR16 := hide_ (show R.length ≤ 16 by omega)
      have hob := hide_ (show (o2.length + [y.name].length) * 8 ≤ 140737488355328 by simp; omega)
      have tok1 : True := trivial
      clear hge hy0 hpass
      cases fnd
      rotate_left
      · go_wp2_with ((first
          | ((with_reducible refine at_idx ?_); have _t := tok1; refine w_kidx Try.enBlk.elS _ _ j rfl rfl rfl rfl hS.kv hy.out ?_; intro pa u16 hrow hu16 hyraw; have hone16 := blk_one (a := y.slot) (b := y.miner) (c := y.var) (d := y.parent) hu16.one'; replace hrow := hide_ hrow; replace hu16 := hide_ hu16; replace hyraw := hide_ hyraw; clear tok1)
          | ((with_reducible refine at_idx ?_); refine w_kidx Try.enBlk.elS _ _ j rfl rfl rfl rfl hS.kv hy.out ?_; intro pa2 u2 hrow hu2 hyraw2; replace hrow := hide_ hrow; have hone2 := hide_ (blk_one (a := y.slot) (b := y.miner) (c := y.var) (d := y.parent) hu2.one'); replace hu2 := hide_ hu2; clear hyraw2)
          | ((with_reducible refine at_load ?_); refine w_pload Try.stBlk _ rfl rfl rfl hrow.out rfl ?_)
          | ((with_reducible refine at_alloc ?_); refine w_alloc Try.stBlk rfl rfl ?_; intro g16 w2 hg16 hx f16; have hn16 := hide_ (show ¬ g16 = g2 from fun e => by have := hS.f2.lt; omega))
          | ((with_reducible refine at_store ?_); refine w_astore Try.stBlk _ _ (us := bRow y u16) rfl rfl rfl rfl rfl f16 rfl rfl hone16 ?_; intro w3 hm3 f9; replace hx := hm3.after hx (fun i hi => by subst hi; exact hg16); replace f16 : Fs w3 g16 (bRow y u16) := f9; replace hS := hS.extend hx; clear hx hm3 f9 hrow hg16 hone16)
          | ((with_reducible refine at_load ?_); (try refine w_yes _ _ _ rfl rfl rfl ?_); refine w_aload Try.stDoc _ rfl rfl rfl hS.f2 rfl ?_)
          | ((with_reducible refine at_load ?_); (try refine w_yes _ _ _ rfl rfl rfl ?_); refine w_aload Try.stBlk _ rfl rfl rfl f16 rfl ?_)
          | ((with_reducible refine at_field ?_); refine w_field Try.stDoc _ _ _ rfl rfl rfl (by omega) ?_)
          | ((with_reducible refine at_load ?_); refine w_fload _ rfl rfl rfl hS.f2 rfl (agg_of (by kernel_rfl)) ?_)
          | ((with_reducible refine at_lit ?_); refine w_nnew Try.enBlk [bRow y u2] rfl rfl rfl (by simp [bRow]) rfl (by simp) ?_; intro v93 w5 B2 hC1 hC2 hx r93; replace hS := hS.extend hx; clear hC1 hC2 hx)
          | ((with_reducible refine at_bi ?_); obtain ⟨rows14, h14, hB14⟩ := hS.r14; have hb := (show (rows14.length + [bRow y u2].length) * 56 ≤ 140737488355328 by have h1 := hB14.len; have h2 := hR16.out; simp; omega); refine w_napp Try.enBlk _ _ rfl rfl rfl rfl h14 r93.slS (by simp) (fun z hz => by rw [List.mem_singleton.1 hz]; exact hone2.out) hb ?_; intro v94 w9 hm9 r94; replace hS := hS.rest hB14 hm9 r94 hu2.out hyraw.out; clear hm9 r93 r94 h14 hB14 hb)
          | fail) <;> (try simp only [Act.put, List.setIfInBounds_toArray, List.set_cons_zero, List.set_cons_succ]))
        go_roundw
        case rel => exact ⟨j + 1, true, _, _, _, _, by go_num, rfl, hlt'.out, by rw [htk.out]; exact passF_keep hpass'.out (.inl rfl), hS⟩
        case measure => have := hlt'.out; simp [RowKit.intOf]; omega
      obtain ⟨_, eK, eR, eO⟩ := passF_no hpass'.out
      have eK' := hide_ eK
      have eR' := hide_ eR
      have eO' := hide_ eO
      clear eK eR eO
      cases hrd2 : TrS.ready K2 y
      · have hrd2' := hide_ hrd2
        clear hrd2
        go_wp2_with ((first
          | ((with_reducible refine at_idx ?_); have _t := tok1; refine w_kidx Try.enBlk.elS _ _ j rfl rfl rfl rfl hS.kv hy.out ?_; intro pa u16 hrow hu16 hyraw; have hone16 := blk_one (a := y.slot) (b := y.miner) (c := y.var) (d := y.parent) hu16.one'; replace hrow := hide_ hrow; replace hu16 := hide_ hu16; replace hyraw := hide_ hyraw; clear tok1)
          | ((with_reducible refine at_idx ?_); refine w_kidx Try.enBlk.elS _ _ j rfl rfl rfl rfl hS.kv hy.out ?_; intro pa2 u2 hrow hu2 hyraw2; replace hrow := hide_ hrow; have hone2 := hide_ (blk_one (a := y.slot) (b := y.miner) (c := y.var) (d := y.parent) hu2.one'); replace hu2 := hide_ hu2; clear hyraw2)
          | ((with_reducible refine at_load ?_); refine w_pload Try.stBlk _ rfl rfl rfl hrow.out rfl ?_)
          | ((with_reducible refine at_alloc ?_); refine w_alloc Try.stBlk rfl rfl ?_; intro g16 w2 hg16 hx f16; have hn16 := hide_ (show ¬ g16 = g2 from fun e => by have := hS.f2.lt; omega))
          | ((with_reducible refine at_store ?_); refine w_astore Try.stBlk _ _ (us := bRow y u16) rfl rfl rfl rfl rfl f16 rfl rfl hone16 ?_; intro w3 hm3 f9; replace hx := hm3.after hx (fun i hi => by subst hi; exact hg16); replace f16 : Fs w3 g16 (bRow y u16) := f9; replace hS := hS.extend hx; clear hx hm3 f9 hrow hg16 hone16)
          | (go_at_call 58; refine (refReady_any (b := y) (hS.kk.recs hS.extr) hu16.out.one').mono ?_; rintro e w4 ⟨rfl, hx⟩; rw [hrd2'.out]; replace hS := hS.extend hx; replace f16 := f16.ext hx; clear hx)
          | ((with_reducible refine at_load ?_); (try refine w_yes _ _ _ rfl rfl rfl ?_); refine w_aload Try.stDoc _ rfl rfl rfl hS.f2 rfl ?_)
          | ((with_reducible refine at_load ?_); (try refine w_yes _ _ _ rfl rfl rfl ?_); refine w_aload Try.stBlk _ rfl rfl rfl f16 rfl ?_)
          | ((with_reducible refine at_field ?_); refine w_field Try.stDoc _ _ _ rfl rfl rfl (by omega) ?_)
          | ((with_reducible refine at_load ?_); refine w_fload _ rfl rfl rfl hS.f2 rfl (agg_of (by kernel_rfl)) ?_)
          | ((with_reducible refine at_lit ?_); refine w_nnew Try.enBlk [bRow y u2] rfl rfl rfl (by simp [bRow]) rfl (by simp) ?_; intro v93 w5 B2 hC1 hC2 hx r93; replace hS := hS.extend hx; clear hC1 hC2 hx)
          | ((with_reducible refine at_bi ?_); obtain ⟨rows14, h14, hB14⟩ := hS.r14; have hb := (show (rows14.length + [bRow y u2].length) * 56 ≤ 140737488355328 by have h1 := hB14.len; have h2 := hR16.out; simp; omega); refine w_napp Try.enBlk _ _ rfl rfl rfl rfl h14 r93.slS (by simp) (fun z hz => by rw [List.mem_singleton.1 hz]; exact hone2.out) hb ?_; intro v94 w9 hm9 r94; replace hS := hS.rest hB14 hm9 r94 hu2.out hyraw.out; clear hm9 r93 r94 h14 hB14 hb)
          | fail) <;> (try simp only [Act.put, List.setIfInBounds_toArray, List.set_cons_zero, List.set_cons_succ]))
        go_roundw
        case rel => exact ⟨j + 1, false, _, _, _, _, by go_num, rfl, hlt'.out, by rw [htk.out]; exact passF_keep hpass'.out (.inr (by rw [← eK'.out]; exact hrd2'.out)), hS⟩
        case measure => have := hlt'.out; simp [RowKit.intOf]; omega
      have hrd2' := hide_ hrd2
      clear hrd2
      have hr3 := hide_ (show TrS.ready K' y = true by rw [← eK'.out]; exact hrd2'.out)
      by_cases hk4 : K2.length < 400
      · go_wp2_with ((first
          | ((with_reducible refine at_idx ?_); have _t := tok1; refine w_kidx Try.enBlk.elS _ _ j rfl rfl rfl rfl hS.kv hy.out ?_; intro pa u16 hrow hu16 hyraw; have hone16 := blk_one (a := y.slot) (b := y.miner) (c := y.var) (d := y.parent) hu16.one'; replace hrow := hide_ hrow; replace hu16 := hide_ hu16; replace hyraw := hide_ hyraw; clear tok1)
          | ((with_reducible refine at_load ?_); refine w_pload Try.stBlk _ rfl rfl rfl hrow.out rfl ?_)
          | ((with_reducible refine at_alloc ?_); refine w_alloc Try.stBlk rfl rfl ?_; intro g16 w2 hg16 hx f16; have hn16 := hide_ (show ¬ g16 = g2 from fun e => by have := hS.f2.lt; omega))
          | ((with_reducible refine at_store ?_); refine w_astore Try.stBlk _ _ (us := bRow y u16) rfl rfl rfl rfl rfl f16 rfl rfl hone16 ?_; intro w3 hm3 f9; replace hx := hm3.after hx (fun i hi => by subst hi; exact hg16); replace f16 : Fs w3 g16 (bRow y u16) := f9; replace hS := hS.extend hx; clear hx hm3 f9 hrow hg16 hone16)
          | (go_at_call 58; refine (refReady_any (b := y) (hS.kk.recs hS.extr) hu16.out.one').mono ?_; rintro e w4 ⟨rfl, hx⟩; rw [hrd2'.out]; replace hS := hS.extend hx; replace f16 := f16.ext hx; clear hx)
          | (go_at_call 59; obtain ⟨rowsk, hsk, hBk, _⟩ := hS.kk; refine (refGrow_yes (b := y) (u := u16) hS.extr hsk hBk hS.kv.one hk4 hu16.out hyraw.out).mono ?_; rintro e w4 ⟨vk3, rows3, rfl, s3, b3, n3, hx⟩; have k3 := hS.grown s3 b3 n3; replace hS := hS.extend hx; replace f16 := f16.ext hx; clear hx s3 b3 n3 hsk hBk)
          | ((with_reducible refine at_alloc ?_); refine w_alloc Try.stDoc rfl rfl ?_; intro g17 w2 hg17 hx f17)
          | ((with_reducible refine at_store ?_); refine w_astore Try.stDoc _ _ (us := [vk3, vw']) rfl rfl rfl rfl rfl f17 rfl rfl (two_one k3.one hS.kv.one) ?_; intro w3 hm3 f9; replace hx := hm3.after hx (fun i hi => by subst hi; exact hg17); replace f17 : Fs w3 g17 [vk3, vw'] := f9; replace hS := hS.extend hx; replace k3 := k3.ext hx; replace f16 := f16.ext hx; clear hx hm3 f9 hg17)
          | ((with_reducible refine at_load ?_); refine w_aload Try.stDoc _ rfl rfl rfl f17 rfl ?_)
          | ((with_reducible refine at_store ?_); refine w_astore Try.stDoc _ _ (us := [vk3, vw']) rfl rfl rfl rfl rfl hS.f2 rfl rfl (two_one k3.one hS.kv.one) ?_; intro w3 hm3 f9; replace hS := hS.store k3 hm3 f9; replace f16 := f16.mod hm3 hn16.out; clear hm3 f9 k3 f17)
          | (go_at_call 35; refine (refBName_any (b := y) (hu16.out.ext TxR.stays hS.extr) hyraw.out.parent).mono ?_; rintro e w4 ⟨rfl, hx⟩; replace hS := hS.extend hx; clear hx f16)
          | ((with_reducible refine at_lit ?_); refine w_new Try.elI (i64s [y.name]) rfl rfl rfl (i64s_cells _) rfl (by omega) ?_; intro v106 w5 hx o106; replace o106 : OwnI _ w5 v106 [y.name] := o106; replace hS := hS.extend hx; clear hx)
          | ((with_reducible refine at_bi ?_); refine appi _ _ rfl rfl rfl rfl hS.o12 o106.ints hob.out hS.ext.size ?_; intro v107 w9 o9 hb9 hg9 hg9'; replace hS := hS.out o9 hg9 hg9'; clear o9 hb9 hg9 hg9' o106)
          | ((with_reducible refine at_load ?_); (try refine w_yes _ _ _ rfl rfl rfl ?_); refine w_aload Try.stDoc _ rfl rfl rfl hS.f2 rfl ?_)
          | ((with_reducible refine at_load ?_); (try refine w_yes _ _ _ rfl rfl rfl ?_); refine w_aload Try.stBlk _ rfl rfl rfl f16 rfl ?_)
          | fail) <;> (try simp only [Act.put, List.setIfInBounds_toArray, List.set_cons_zero, List.set_cons_succ]))
        go_roundw
        case rel => exact ⟨j + 1, true, K2 ++ [y], R, _, _, by go_num, rfl, hlt'.out, by rw [htk.out, passF_take hpass'.out hr3.out, if_pos (by rw [← eK'.out]; exact hk4), eK'.out, eR'.out, eO'.out], hS⟩
        case measure => have := hlt'.out; simp [RowKit.intOf]; omega
      · have hk5 : 400 ≤ K2.length := by omega
        go_wp2_with ((first
          | ((with_reducible refine at_idx ?_); have _t := tok1; refine w_kidx Try.enBlk.elS _ _ j rfl rfl rfl rfl hS.kv hy.out ?_; intro pa u16 hrow hu16 hyraw; have hone16 := blk_one (a := y.slot) (b := y.miner) (c := y.var) (d := y.parent) hu16.one'; replace hrow := hide_ hrow; replace hu16 := hide_ hu16; replace hyraw := hide_ hyraw; clear tok1)
          | ((with_reducible refine at_load ?_); refine w_pload Try.stBlk _ rfl rfl rfl hrow.out rfl ?_)
          | ((with_reducible refine at_alloc ?_); refine w_alloc Try.stBlk rfl rfl ?_; intro g16 w2 hg16 hx f16; have hn16 := hide_ (show ¬ g16 = g2 from fun e => by have := hS.f2.lt; omega))
          | ((with_reducible refine at_store ?_); refine w_astore Try.stBlk _ _ (us := bRow y u16) rfl rfl rfl rfl rfl f16 rfl rfl hone16 ?_; intro w3 hm3 f9; replace hx := hm3.after hx (fun i hi => by subst hi; exact hg16); replace f16 : Fs w3 g16 (bRow y u16) := f9; replace hS := hS.extend hx; clear hx hm3 f9 hrow hg16 hone16)
          | (go_at_call 58; refine (refReady_any (b := y) (hS.kk.recs hS.extr) hu16.out.one').mono ?_; rintro e w4 ⟨rfl, hx⟩; rw [hrd2'.out]; replace hS := hS.extend hx; replace f16 := f16.ext hx; clear hx)
          | (go_at_call 59; refine (refGrow_no (b := y) (u := u16) (hS.kk.recs hS.extr) hS.kv.one hk5).mono ?_; rintro e w4 ⟨rfl, hx⟩; replace hS := hS.extend hx; replace f16 := f16.ext hx; have k3 := hS.kk; clear hx)
          | ((with_reducible refine at_alloc ?_); refine w_alloc Try.stDoc rfl rfl ?_; intro g17 w2 hg17 hx f17)
          | ((with_reducible refine at_store ?_); refine w_astore Try.stDoc _ _ (us := [vk2, vw']) rfl rfl rfl rfl rfl f17 rfl rfl hS.two ?_; intro w3 hm3 f9; replace hx := hm3.after hx (fun i hi => by subst hi; exact hg17); replace f17 : Fs w3 g17 [vk2, vw'] := f9; replace hS := hS.extend hx; replace k3 := k3.ext hx; replace f16 := f16.ext hx; clear hx hm3 f9 hg17)
          | ((with_reducible refine at_load ?_); refine w_aload Try.stDoc _ rfl rfl rfl f17 rfl ?_)
          | ((with_reducible refine at_store ?_); refine w_astore Try.stDoc _ _ (us := [vk2, vw']) rfl rfl rfl rfl rfl hS.f2 rfl rfl hS.two ?_; intro w3 hm3 f9; replace hS := hS.store k3 hm3 f9; replace f16 := f16.mod hm3 hn16.out; clear hm3 f9 k3 f17)
          | ((with_reducible refine at_load ?_); (try refine w_yes _ _ _ rfl rfl rfl ?_); refine w_aload Try.stDoc _ rfl rfl rfl hS.f2 rfl ?_)
          | ((with_reducible refine at_load ?_); (try refine w_yes _ _ _ rfl rfl rfl ?_); refine w_aload Try.stBlk _ rfl rfl rfl f16 rfl ?_)
          | fail) <;> (try simp only [Act.put, List.setIfInBounds_toArray, List.set_cons_zero, List.set_cons_succ]))
        go_roundw
        case rel => exact ⟨j + 1, true, K2, R, o2, _, by go_num, rfl, hlt'.out, by rw [htk.out, passF_take hpass'.out hr3.out, if_neg (by rw [← eK'.out]; exact hk4), eK'.out, eR'.out, eO'.out], hS⟩
        case measure => have := hlt'.out; simp [RowKit.intOf]; omega
end Go.Proofs.Ytdacclcaopmalaa
