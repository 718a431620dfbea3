/- The statement CheckTold: a message of a decided index is answered with the decision alone and turns nothing; one of a later index is not answered. No condition. -/
import Derived.Test.YtajkjiegcmpjaaaGreatPk22
namespace Go.Proofs.YtajkjiegcmpjaaaGreat
set_option maxHeartbeats 3200000
set_option maxRecDepth 100000
open Go.RowKit Go.ChangeShapes Go.WideShapes Go.ChangeAt
theorem ownI_lt {B : Nat} {w : World} {v : Value} {l : List Int} (o : OwnI B w v l) {k : Nat} (hk : v.ownBlock = some k) : B ≤ k := ((show w.ownsRow B 3 1 v (i64s l).length (i64s l) from o).lt k hk).1
theorem checkTold_law (v1 ug u2 : Value) (g : CfD) (l : List AcE) (m : MsgD) (W : World) (hu0 : Ints W ug g.st) (hgl : g.st.length * 8 ≤ 140737488351232) (h1 : Recs 15 AcER W v1 l) (h2 : Recs 2 TxR W u2 m.bk.txs) (hraw : m.Raw) :
    Calls Tryz.prog 4 #[.agg (g.row ug).toArray, v1, .agg (mRow m u2).toArray] W fun e w' => e = .returned (.bool true) ∧ Ext W w' := by
  refine z30z ?_
  have hu := hide_ hu0
  have r1 := hide_ h1
  have hbig := hide_ (show (([] : List Int).length + g.st.length) * 8 ≤ 140737488355328 from by simp; omega)
  have hlmax := h1.len_le
  unfold maxLen at hlmax
  have hX := Ext.refl W
  have r2 := hide_ h2
  have hvl := hide_ hraw.vl
  have hpar := hide_ (show I64 m.bk.parent from hraw.bk.parent)
  have hmf := hide_ hraw.few
  by_cases hg0 : g.Ok
  rotate_left
  · have hok := hide_ (decide_eq_false hg0)
    clear hu0 h1 h2 hraw hg0
    go_enter Tryz.func4, Tryz.ntmps4
    go_wp2_with ((first | go_big_skip | (refine z2zz ?_; intro g3 w1 hg3 hx f3; replace hX := hX.trans hx; clear hx) | (refine z4yz ?_; intro g5 w2 hg5 hx f5; replace f3 := f3.ext hx; replace hX := hX.trans hx; clear hx) | refine z3nz ?_ | (go_at_call 11; refine (refMRight_any (d := m) (u := u2) (r2.out.ext TxR.stays hX) hvl.out hpar.out).mono ?_; rintro e w6 ⟨rfl, hx⟩; rw [hmr.out]; replace f3 := f3.ext hx; replace f5 := f5.ext hx; replace hX := hX.trans hx; clear hx) | (go_at_call 6; refine alive_any.mono ?_; rintro e w3 ⟨rfl, hx⟩; replace f3 := f3.ext hx; replace f5 := f5.ext hx; replace hX := hX.trans hx; clear hx) | refine z32z ?_ | (go_at_call 7; refine (right_any (hu.out.ext hX)).mono ?_; rintro e w4 ⟨rfl, hx⟩; rw [hok.out]; replace f3 := f3.ext hx; replace f5 := f5.ext hx; replace hX := hX.trans hx; clear hx) | refine z25z ?_ | fail) <;> (try refine z1z ?_))
    go_ret
    exact z3mz
  have hok := hide_ (decide_eq_true hg0)
  have hg := hide_ hg0
  by_cases h60 : (60 : Int) < (l.length : Int)
  · have tA : decide ((l.length : Int) > 60) = true := decide_eq_true h60
    have tA' : decide ((60 : Int) < (l.length : Int)) = true := decide_eq_true h60
    clear hu0 h1 h2 hraw hg0
    go_enter Tryz.func4, Tryz.ntmps4
    go_wp2_with ((first | go_big_skip | (refine z2zz ?_; intro g3 w1 hg3 hx f3; replace hX := hX.trans hx; clear hx) | (refine z4yz ?_; intro g5 w2 hg5 hx f5; replace f3 := f3.ext hx; replace hX := hX.trans hx; clear hx) | refine z3nz ?_ | (go_at_call 11; refine (refMRight_any (d := m) (u := u2) (r2.out.ext TxR.stays hX) hvl.out hpar.out).mono ?_; rintro e w6 ⟨rfl, hx⟩; rw [hmr.out]; replace f3 := f3.ext hx; replace f5 := f5.ext hx; replace hX := hX.trans hx; clear hx) | (go_at_call 6; refine alive_any.mono ?_; rintro e w3 ⟨rfl, hx⟩; replace f3 := f3.ext hx; replace f5 := f5.ext hx; replace hX := hX.trans hx; clear hx) | refine z32z ?_ | (go_at_call 7; refine (right_any (hu.out.ext hX)).mono ?_; rintro e w4 ⟨rfl, hx⟩; rw [hok.out]; replace f3 := f3.ext hx; replace f5 := f5.ext hx; replace hX := hX.trans hx; clear hx) | refine z25z ?_ | fail) <;> (try refine z1z ?_))
    go_ret
    exact z3mz
  have tA : decide ((l.length : Int) > 60) = false := decide_eq_false h60
  have tA' : decide ((60 : Int) < (l.length : Int)) = false := decide_eq_false h60
  by_cases hm0 : m.Right
  rotate_left
  · have hmr := hide_ (decide_eq_false hm0)
    clear hu0 h1 h2 hraw hg0
    go_enter Tryz.func4, Tryz.ntmps4
    go_wp2_with ((first | go_big_skip | (refine z2zz ?_; intro g3 w1 hg3 hx f3; replace hX := hX.trans hx; clear hx) | (refine z4yz ?_; intro g5 w2 hg5 hx f5; replace f3 := f3.ext hx; replace hX := hX.trans hx; clear hx) | refine z3nz ?_ | (go_at_call 11; refine (refMRight_any (d := m) (u := u2) (r2.out.ext TxR.stays hX) hvl.out hpar.out).mono ?_; rintro e w6 ⟨rfl, hx⟩; rw [hmr.out]; replace f3 := f3.ext hx; replace f5 := f5.ext hx; replace hX := hX.trans hx; clear hx) | (go_at_call 6; refine alive_any.mono ?_; rintro e w3 ⟨rfl, hx⟩; replace f3 := f3.ext hx; replace f5 := f5.ext hx; replace hX := hX.trans hx; clear hx) | refine z32z ?_ | (go_at_call 7; refine (right_any (hu.out.ext hX)).mono ?_; rintro e w4 ⟨rfl, hx⟩; rw [hok.out]; replace f3 := f3.ext hx; replace f5 := f5.ext hx; replace hX := hX.trans hx; clear hx) | refine z25z ?_ | fail) <;> (try refine z1z ?_))
    go_ret
    exact z3mz
  have hmr := hide_ (decide_eq_true hm0)
  have hmR := hide_ hm0
  clear hu0 h1 h2 hraw
  go_enter Tryz.func4, Tryz.ntmps4
  go_wp2_with ((first | go_big_skip | (refine z2zz ?_; intro g3 w1 hg3 hx f3; replace hX := hX.trans hx; clear hx) | (refine z4yz ?_; intro g5 w2 hg5 hx f5; replace f3 := f3.ext hx; replace hX := hX.trans hx; clear hx) | refine z3nz ?_ | (go_at_call 11; refine (refMRight_any (d := m) (u := u2) (r2.out.ext TxR.stays hX) hvl.out hpar.out).mono ?_; rintro e w6 ⟨rfl, hx⟩; rw [hmr.out]; replace f3 := f3.ext hx; replace f5 := f5.ext hx; replace hX := hX.trans hx; clear hx) | (go_at_call 6; refine alive_any.mono ?_; rintro e w3 ⟨rfl, hx⟩; replace f3 := f3.ext hx; replace f5 := f5.ext hx; replace hX := hX.trans hx; clear hx) | refine z32z ?_ | (go_at_call 7; refine (right_any (hu.out.ext hX)).mono ?_; rintro e w4 ⟨rfl, hx⟩; rw [hok.out]; replace f3 := f3.ext hx; replace f5 := f5.ext hx; replace hX := hX.trans hx; clear hx) | refine z25z ?_ | ((with_reducible refine at_lit ?_); refine w_new Tryz.elI (i64s [65536, 131072]) rfl rfl rfl (i64s_cells _) rfl (by omega) ?_; intro v7 wk hx o7; have ik := hide_ (show OwnI _ wk v7 [65536, 131072] from o7).ints; clear o7; replace f3 := f3.ext hx; replace f5 := f5.ext hx; replace hX := hX.trans hx; clear hx) | fail) <;> (try refine z1z ?_))
  refine wp_region_chain [0, 1, 3, 4, 6, 7, 8, 9] [2, 5, 10, 11] [] (fun i => ([32, 33, 34, 35, 36, 37, 38, 39, 40, 41, 42, 8] : List Nat).getD i 0) (fun i x => x = ([(.pointer (some ⟨g3, 0, none⟩)), (.int .i64 g.me), undef, (.pointer (some ⟨g3, 3, none⟩)), (ug), undef, (.pointer (some ⟨g3, 1, none⟩)), (.int .i64 g.base), (.pointer (some ⟨g3, 2, none⟩)), (.int .i64 g.most), undef, undef] : List Value).getD i undef) (JN wk g) (by kernel_rfl) (by kernel_rfl) (by kernel_rfl) (by decide) (by kernel_rfl) (by decide) (by decide) (by decide) (by intro i hi; show _ < 173; revert i; decide) (by kernel_rfl) (fun w1 h => h) ?_ ?_ ?_
  · intro i hi m x b w' hJ hlat hpre hout hdep
    rcases (show i = 0 ∨ i = 1 ∨ i = 3 ∨ i = 4 ∨ i = 6 ∨ i = 7 ∨ i = 8 ∨ i = 9 by simp at hi; omega) with rfl | rfl | rfl | rfl | rfl | rfl | rfl | rfl
    · have e3 : b.tmps.getD 3 undef = .pointer (some ⟨g3, 0, none⟩) := hout 3 (by decide)
      exact z7jz
    · have e32 : b.tmps.getD 32 undef = .pointer (some ⟨g3, 0, none⟩) := hdep 0 (by decide) (by kernel_rfl)
      have hx : Ext wk w' := JN.ext hJ (hlat 2 (by decide) (by kernel_rfl))
      refine znz ?_
      refine w_fload (.tmp 32) rfl rfl e32 (f3.ext hx) rfl (agg_of (by kernel_rfl)) ?_
      exact z2nz
    · have e3 : b.tmps.getD 3 undef = .pointer (some ⟨g3, 0, none⟩) := hout 3 (by decide)
      exact z7kz
    · have e35 : b.tmps.getD 35 undef = .pointer (some ⟨g3, 3, none⟩) := hdep 3 (by decide) (by kernel_rfl)
      have hx : Ext wk w' := JN.ext hJ (hlat 1 (by decide) (by kernel_rfl))
      refine znz ?_
      refine w_fload (.tmp 35) rfl rfl e35 (f3.ext hx) rfl (agg_of (by kernel_rfl)) ?_
      exact z2nz
    · have e3 : b.tmps.getD 3 undef = .pointer (some ⟨g3, 0, none⟩) := hout 3 (by decide)
      exact z7lz
    · have e38 : b.tmps.getD 38 undef = .pointer (some ⟨g3, 1, none⟩) := hdep 6 (by decide) (by kernel_rfl)
      have hx : Ext wk w' := JN.ext hJ (hlat 2 (by decide) (by kernel_rfl))
      refine znz ?_
      refine w_fload (.tmp 38) rfl rfl e38 (f3.ext hx) rfl (agg_of (by kernel_rfl)) ?_
      exact z2nz
    · have e3 : b.tmps.getD 3 undef = .pointer (some ⟨g3, 0, none⟩) := hout 3 (by decide)
      exact z7mz
    · have e40 : b.tmps.getD 40 undef = .pointer (some ⟨g3, 2, none⟩) := hdep 8 (by decide) (by kernel_rfl)
      have hx : Ext wk w' := JN.ext hJ (hlat 2 (by decide) (by kernel_rfl))
      refine znz ?_
      refine w_fload (.tmp 40) rfl rfl e40 (f3.ext hx) rfl (agg_of (by kernel_rfl)) ?_
      exact z2nz
  · intro m hm x b w' hJ hpr hout hdep
    rcases (show m = 0 ∨ m = 1 ∨ m = 2 ∨ m = 3 by simp at hm; omega) with rfl | rfl | rfl | rfl
    · show wpOp _ _ _ 2 _ _ _
      refine znz ?_
      refine w_new Tryz.elI (i64s []) rfl rfl rfl (i64s_cells _) rfl (by omega) ?_
      intro v5 w5 hx5 o5
      have hJ0 : Ext wk w' := hJ
      exact ⟨_, rfl, hJ0.trans hx5, (show OwnI _ w5 v5 [] from o5).mono hJ0.size⟩
    · have e34 : b.tmps.getD 34 undef = x := hpr (by omega) rfl
      have e36 : b.tmps.getD 36 undef = ug := hdep 4 (by decide) (by kernel_rfl)
      show wpOp _ _ _ 5 _ _ _
      obtain ⟨hx, o5⟩ := hJ
      refine znz ?_
      refine appi (.tmp 34) (.tmp 36) rfl rfl e34 e36 o5 ((hu.out.ext hX).ext hx) hbig.out hx.size ?_
      intro v9 w9 o9 hb9 hg9 hg9'
      exact ⟨_, rfl, hx.trans' hb9, by rw [List.nil_append] at o9; exact o9.ints⟩
    · have e33 : b.tmps.getD 33 undef = .int .i64 g.me := hdep 1 (by decide) (by kernel_rfl)
      have e37 : b.tmps.getD 37 undef = x := hpr (by omega) rfl
      have e39 : b.tmps.getD 39 undef = .int .i64 g.base := hdep 7 (by decide) (by kernel_rfl)
      have e41 : b.tmps.getD 41 undef = .int .i64 g.most := hdep 9 (by decide) (by kernel_rfl)
      show wpOp _ _ _ 10 _ _ _
      obtain ⟨hx, hi⟩ := hJ
      refine wpOp_call 9 #[.int .i64 g.me, x, .int .i64 g.base, .int .i64 g.most] 42 rfl rfl rfl rfl (fun _ _ => rfl) (by simp only [List.map_toArray, List.map_cons, List.map_nil, Act.eval, e33, e37, e39, e41]) ?_
      refine (new_held hg.out hx hi).mono ?_
      rintro e w2 ⟨p, rfl, hp⟩
      exact ⟨_, rfl, _, rfl, p, rfl, hp⟩
    · have e42 : b.tmps.getD 42 undef = x := hpr (by omega) rfl
      show wpOp _ _ _ 11 _ _ _
      obtain ⟨p, rfl, hp⟩ := hJ
      refine znz ?_
      refine w_mvC (.tmp 42) rfl (.inr rfl) e42 ?_
      exact ⟨_, rfl, p, rfl, hp⟩
  intro wn x0 x hJ hv hl
  obtain ⟨p, ex0, hp⟩ := hJ
  have hl' : x 11 = .pointer (some ⟨p, 0, none⟩) := (hl (by decide) (by kernel_rfl)).trans ex0
  simp only [List.cons_append, List.nil_append, List.foldl_cons, List.foldl_nil, hl']
  clear hl hl' ex0
  generalize x 0 = x100
  generalize x 1 = x101
  generalize x 2 = x102
  generalize x 3 = x103
  generalize x 4 = x104
  generalize x 5 = x105
  generalize x 6 = x106
  generalize x 7 = x107
  generalize x 8 = x108
  generalize x 9 = x109
  generalize x 10 = x110
  refine z24z ?_
  clear hv
  have hX0 := hide_ hX
  have f30 := hide_ f3
  have f50 := hide_ f5
  have hsp0 := spk0 hg.out
  clear f3 f5 hX hg0
  go_wp2_with ((first | refine z6ez ?_ | fail) <;> (try refine z1z ?_))
  go_loopw [45] (fun i wr => ∃ (k : Nat) (c : CoD), i = .int .i64 k ∧ k ≤ l.length ∧ Held wk wr p c ∧ Spk NV c.idx c ∧ c.out = [] ∧ c.t = g.st ∧ c.me = g.me.toNat) (fun i _ => l.length - (RowKit.intOf i).toNat)
  case atStart => exact ⟨0, _, rfl, Nat.zero_le _, hp, hsp0, rfl, rfl, rfl⟩
  case round =>
    clear hp hsp0
    obtain ⟨k, c, rfl, hk, hH, hsp1, hout1, ht1, hme1⟩ := hrel
    have hsp := hide_ hsp1
    have hout := hide_ hout1
    have ht := hide_ ht1
    have hme := hide_ hme1
    have hX := hX0.out.trans hH.x
    by_cases hge : l.length ≤ k
    · obtain rfl : k = l.length := by omega
      have t2 : decide ((l.length : Int) < (l.length : Int)) = false := by simp
      have t2' : decide (l.length < l.length) = false := by simp
      have f3 := f30.out.ext hH.x
      have f5 := f50.out.ext hH.x
      have hme2 : ((c.me : Nat) : Int) = g.me := by rw [hme1]; have := hg.out.me; omega
      obtain ⟨L, hL0⟩ : ∃ L, c.dec = L := ⟨_, rfl⟩
      obtain ⟨n, hn0⟩ : ∃ n : Int, (L.length : Int) = n := ⟨_, rfl⟩
      obtain ⟨vv, hv0⟩ : ∃ v, c.view = v := ⟨_, rfl⟩
      obtain ⟨vs, hs0⟩ : ∃ v, c.step = v := ⟨_, rfl⟩
      obtain ⟨gn, hgn0⟩ : ∃ n : Int, (g.st.length : Int) = n := ⟨_, rfl⟩
      have hdl1 := hsp1.1.dl
      rw [hL0] at hdl1
      have hL := hide_ hL0
      have hn := hide_ hn0
      have hv := hide_ hv0
      have hs := hide_ hs0
      have hgn := hide_ hgn0
      have hdl := hide_ hdl1
      clear hge
      by_cases hix : m.ix = n
      · have tI : (m.ix == n) = true := by simp [hix]
        clear hsp1 hout1 ht1 hme1 hme2 hL0 hn0 hv0 hs0 hgn0 hdl1 hix
        go_wp2_with ((first | go_big_skip | (go_at_call 16; refine (dec_held hH hL.out hdl.out).mono ?_; rintro e wj ⟨u11, rfl, o11, hx⟩; have i11 := o11.ints; have hHa := hH; have hxa := hx; replace hH := hH.ext hx; replace f3 := f3.ext hx; replace f5 := f5.ext hx; replace hX := hX.trans hx; clear hx) | (go_at_call 17; refine (view_held hH hv.out).mono ?_; rintro e wj2 ⟨rfl, hx⟩; replace i11 := i11.ext hx; replace hxa := hxa.trans hx; replace hH := hH.ext hx; replace f3 := f3.ext hx; replace f5 := f5.ext hx; replace hX := hX.trans hx; clear hx) | (go_at_call 18; refine (stp_held hH hs.out).mono ?_; rintro e wj3 ⟨rfl, hx⟩; replace i11 := i11.ext hx; replace hxa := hxa.trans hx; replace hH := hH.ext hx; replace f3 := f3.ext hx; replace f5 := f5.ext hx; replace hX := hX.trans hx; clear hx) | (refine z27z ?_; rw [hn.out]) | refine z1uz ?_ | fail) <;> (try refine z1z ?_))
        go_ret
        exact z3mz
      have tI : (m.ix == n) = false := by simp [hix]
      by_cases hk3 : m.kd < 3
      · have tK : decide (m.kd < 3) = true := decide_eq_true hk3
        clear hsp1 hout1 ht1 hme1 hme2 hL0 hn0 hv0 hs0 hgn0 hdl1 hix hk3
        go_wp2_with ((first | go_big_skip | (go_at_call 16; refine (dec_held hH hL.out hdl.out).mono ?_; rintro e wj ⟨u11, rfl, o11, hx⟩; have i11 := o11.ints; have hHa := hH; have hxa := hx; replace hH := hH.ext hx; replace f3 := f3.ext hx; replace f5 := f5.ext hx; replace hX := hX.trans hx; clear hx) | (go_at_call 17; refine (view_held hH hv.out).mono ?_; rintro e wj2 ⟨rfl, hx⟩; replace i11 := i11.ext hx; replace hxa := hxa.trans hx; replace hH := hH.ext hx; replace f3 := f3.ext hx; replace f5 := f5.ext hx; replace hX := hX.trans hx; clear hx) | (go_at_call 18; refine (stp_held hH hs.out).mono ?_; rintro e wj3 ⟨rfl, hx⟩; replace i11 := i11.ext hx; replace hxa := hxa.trans hx; replace hH := hH.ext hx; replace f3 := f3.ext hx; replace f5 := f5.ext hx; replace hX := hX.trans hx; clear hx) | (refine z27z ?_; rw [hn.out]) | refine z1uz ?_ | fail) <;> (try refine z1z ?_))
        go_ret
        exact z3mz
      have tK : decide (m.kd < 3) = false := decide_eq_false hk3
      have hoff := handle_off' (kn := [65536, 131072]) hout1 (show 3 ≤ m.kd by omega) hL0 hn0 ht1 hgn0 hme2 hix
      have tV : (vv != vv) = false := by simp
      have tS : (vs != vs) = false := by simp
      by_cases qa : n < m.ix
      · have tX : decide (m.ix > n) = true := decide_eq_true qa
        have hfin := hide_ (show c.handle m.msv [65536, 131072] = { c with out := [] } from by rw [hoff, if_pos (.inl qa)])
        clear qa
        clear hsp1 hout1 ht1 hme1 hme2 hL0 hn0 hv0 hs0 hgn0 hdl1 hix hk3 hoff
        go_upto_region 19 with ((first | go_big_skip | (go_at_call 16; refine (dec_held hH hL.out hdl.out).mono ?_; rintro e wj ⟨u11, rfl, o11, hx⟩; have i11 := o11.ints; have hHa := hH; have hxa := hx; replace hH := hH.ext hx; replace f3 := f3.ext hx; replace f5 := f5.ext hx; replace hX := hX.trans hx; clear hx) | (go_at_call 17; refine (view_held hH hv.out).mono ?_; rintro e wj2 ⟨rfl, hx⟩; replace i11 := i11.ext hx; replace hxa := hxa.trans hx; replace hH := hH.ext hx; replace f3 := f3.ext hx; replace f5 := f5.ext hx; replace hX := hX.trans hx; clear hx) | (go_at_call 18; refine (stp_held hH hs.out).mono ?_; rintro e wj3 ⟨rfl, hx⟩; replace i11 := i11.ext hx; replace hxa := hxa.trans hx; replace hH := hH.ext hx; replace f3 := f3.ext hx; replace f5 := f5.ext hx; replace hX := hX.trans hx; clear hx) | (refine z27z ?_; rw [hn.out]) | refine z1uz ?_ | fail) <;> (try refine z1z ?_))
        go_wp2_with ((first | refine z46z ?_ | (go_at_call 12; refine (refMCopy_any (d := m) (u := u2) (r2.out.ext TxR.stays hX) hmf.out).mono ?_; rintro e wf ⟨uc, rfl, cc, hx⟩; replace hxa := hxa.trans hx; replace i11 := i11.ext hx; replace f3 := f3.ext hx; replace f5 := f5.ext hx; replace hX := hX.trans hx; clear hx) | (refine z3rz ?_; intro v3 wc hx3 ho3; have o3 : OwnI _ wc v3 [] := ho3; clear ho3) | (refine z42z ?_; intro vm wd ho4 hb4 hg4 hl4; have hx4 := hx3.trans' hb4; rw [List.nil_append] at ho4; replace ho4 := ho4.mono hxa.size; replace hxa := hxa.trans hx4; replace i11 := i11.ext hx4; clear hb4 hg4 hl4 o3 hx3 hx4) | (go_at_call 10; refine (handle_held2 hHa hxa ho4 hsp.out hout.out hmR.out).mono ?_; rintro e wg ⟨ov, rfl, hH2, hr0, hmd⟩; rw [hfin.out] at hH2 hr0; replace i11 := ints_mod i11 hmd (fun k hk e => by have h9 := (ownI_lt o11 hk); exact Nat.lt_irrefl _ (Nat.lt_of_lt_of_le e h9)); replace hH := hH2; have f3 := f30.out.ext hH2.x; have f5 := f50.out.ext hH2.x; have hX := hX0.out.trans hH2.x; clear hHa hxa ho4 hmd hH2; have hr := hide_ hr0; clear hr0) | (go_at_call 16; refine (dec_held hH (l := L) hL.out hdl.out).mono ?_; rintro e wk1 ⟨u21, rfl, o21, hx⟩; have i21 := o21.ints; have hxb := hx; replace i11 := i11.ext hx; replace hH := hH.ext hx; replace f3 := f3.ext hx; replace f5 := f5.ext hx; replace hX := hX.trans hx; clear hx) | (go_at_call 19; refine (SameInts_any _ _ L _ i21 i11).mono ?_; rintro e wk2 ⟨rfl, hx⟩; replace hxb := hxb.trans hx; replace i11 := i11.ext hx; replace hH := hH.ext hx; replace f3 := f3.ext hx; replace f5 := f5.ext hx; replace hX := hX.trans hx; clear hx) | (go_at_call 17; refine (view_held hH (v := vv) hv.out).mono ?_; rintro e wk3 ⟨rfl, hx⟩; replace hxb := hxb.trans hx; replace i11 := i11.ext hx; replace hH := hH.ext hx; replace f3 := f3.ext hx; replace f5 := f5.ext hx; replace hX := hX.trans hx; clear hx) | (go_at_call 18; refine (stp_held hH (v := vs) hs.out).mono ?_; rintro e wk4 ⟨rfl, hx⟩; replace hxb := hxb.trans hx; replace i11 := i11.ext hx; replace hH := hH.ext hx; replace f3 := f3.ext hx; replace f5 := f5.ext hx; replace hX := hX.trans hx; clear hx) | (refine z27z ?_; rw [hn.out]) | refine z2vz ?_ | (refine z1yz ?_; rw [hgn.out]) | (refine z3wz ?_; rw [List.length_nil]) | fail) <;> (try refine z1z ?_))
        go_ret
        exact z3mz
      have tX : decide (m.ix > n) = false := decide_eq_false qa
      by_cases qb : gn ≤ m.fm
      · have tF : decide (m.fm ≥ gn) = true := decide_eq_true qb
        have hfin := hide_ (show c.handle m.msv [65536, 131072] = { c with out := [] } from by rw [hoff, if_pos (.inr (.inl qb))])
        clear qa qb
        clear hsp1 hout1 ht1 hme1 hme2 hL0 hn0 hv0 hs0 hgn0 hdl1 hix hk3 hoff
        go_upto_region 19 with ((first | go_big_skip | (go_at_call 16; refine (dec_held hH hL.out hdl.out).mono ?_; rintro e wj ⟨u11, rfl, o11, hx⟩; have i11 := o11.ints; have hHa := hH; have hxa := hx; replace hH := hH.ext hx; replace f3 := f3.ext hx; replace f5 := f5.ext hx; replace hX := hX.trans hx; clear hx) | (go_at_call 17; refine (view_held hH hv.out).mono ?_; rintro e wj2 ⟨rfl, hx⟩; replace i11 := i11.ext hx; replace hxa := hxa.trans hx; replace hH := hH.ext hx; replace f3 := f3.ext hx; replace f5 := f5.ext hx; replace hX := hX.trans hx; clear hx) | (go_at_call 18; refine (stp_held hH hs.out).mono ?_; rintro e wj3 ⟨rfl, hx⟩; replace i11 := i11.ext hx; replace hxa := hxa.trans hx; replace hH := hH.ext hx; replace f3 := f3.ext hx; replace f5 := f5.ext hx; replace hX := hX.trans hx; clear hx) | (refine z27z ?_; rw [hn.out]) | refine z1uz ?_ | fail) <;> (try refine z1z ?_))
        go_wp2_with ((first | refine z46z ?_ | (go_at_call 12; refine (refMCopy_any (d := m) (u := u2) (r2.out.ext TxR.stays hX) hmf.out).mono ?_; rintro e wf ⟨uc, rfl, cc, hx⟩; replace hxa := hxa.trans hx; replace i11 := i11.ext hx; replace f3 := f3.ext hx; replace f5 := f5.ext hx; replace hX := hX.trans hx; clear hx) | (refine z3rz ?_; intro v3 wc hx3 ho3; have o3 : OwnI _ wc v3 [] := ho3; clear ho3) | (refine z42z ?_; intro vm wd ho4 hb4 hg4 hl4; have hx4 := hx3.trans' hb4; rw [List.nil_append] at ho4; replace ho4 := ho4.mono hxa.size; replace hxa := hxa.trans hx4; replace i11 := i11.ext hx4; clear hb4 hg4 hl4 o3 hx3 hx4) | (go_at_call 10; refine (handle_held2 hHa hxa ho4 hsp.out hout.out hmR.out).mono ?_; rintro e wg ⟨ov, rfl, hH2, hr0, hmd⟩; rw [hfin.out] at hH2 hr0; replace i11 := ints_mod i11 hmd (fun k hk e => by have h9 := (ownI_lt o11 hk); exact Nat.lt_irrefl _ (Nat.lt_of_lt_of_le e h9)); replace hH := hH2; have f3 := f30.out.ext hH2.x; have f5 := f50.out.ext hH2.x; have hX := hX0.out.trans hH2.x; clear hHa hxa ho4 hmd hH2; have hr := hide_ hr0; clear hr0) | (go_at_call 16; refine (dec_held hH (l := L) hL.out hdl.out).mono ?_; rintro e wk1 ⟨u21, rfl, o21, hx⟩; have i21 := o21.ints; have hxb := hx; replace i11 := i11.ext hx; replace hH := hH.ext hx; replace f3 := f3.ext hx; replace f5 := f5.ext hx; replace hX := hX.trans hx; clear hx) | (go_at_call 19; refine (SameInts_any _ _ L _ i21 i11).mono ?_; rintro e wk2 ⟨rfl, hx⟩; replace hxb := hxb.trans hx; replace i11 := i11.ext hx; replace hH := hH.ext hx; replace f3 := f3.ext hx; replace f5 := f5.ext hx; replace hX := hX.trans hx; clear hx) | (go_at_call 17; refine (view_held hH (v := vv) hv.out).mono ?_; rintro e wk3 ⟨rfl, hx⟩; replace hxb := hxb.trans hx; replace i11 := i11.ext hx; replace hH := hH.ext hx; replace f3 := f3.ext hx; replace f5 := f5.ext hx; replace hX := hX.trans hx; clear hx) | (go_at_call 18; refine (stp_held hH (v := vs) hs.out).mono ?_; rintro e wk4 ⟨rfl, hx⟩; replace hxb := hxb.trans hx; replace i11 := i11.ext hx; replace hH := hH.ext hx; replace f3 := f3.ext hx; replace f5 := f5.ext hx; replace hX := hX.trans hx; clear hx) | (refine z27z ?_; rw [hn.out]) | refine z2vz ?_ | (refine z1yz ?_; rw [hgn.out]) | (refine z3wz ?_; rw [List.length_nil]) | fail) <;> (try refine z1z ?_))
        go_ret
        exact z3mz
      have tF : decide (m.fm ≥ gn) = false := decide_eq_false (by omega)
      by_cases qc : m.kd = 6
      · have tC : (m.kd == 6) = true := by simp [qc]
        have hfin := hide_ (show c.handle m.msv [65536, 131072] = { c with out := [] } from by rw [hoff, if_pos (.inr (.inr qc))])
        clear qa qb qc
        clear hsp1 hout1 ht1 hme1 hme2 hL0 hn0 hv0 hs0 hgn0 hdl1 hix hk3 hoff
        go_upto_region 19 with ((first | go_big_skip | (go_at_call 16; refine (dec_held hH hL.out hdl.out).mono ?_; rintro e wj ⟨u11, rfl, o11, hx⟩; have i11 := o11.ints; have hHa := hH; have hxa := hx; replace hH := hH.ext hx; replace f3 := f3.ext hx; replace f5 := f5.ext hx; replace hX := hX.trans hx; clear hx) | (go_at_call 17; refine (view_held hH hv.out).mono ?_; rintro e wj2 ⟨rfl, hx⟩; replace i11 := i11.ext hx; replace hxa := hxa.trans hx; replace hH := hH.ext hx; replace f3 := f3.ext hx; replace f5 := f5.ext hx; replace hX := hX.trans hx; clear hx) | (go_at_call 18; refine (stp_held hH hs.out).mono ?_; rintro e wj3 ⟨rfl, hx⟩; replace i11 := i11.ext hx; replace hxa := hxa.trans hx; replace hH := hH.ext hx; replace f3 := f3.ext hx; replace f5 := f5.ext hx; replace hX := hX.trans hx; clear hx) | (refine z27z ?_; rw [hn.out]) | refine z1uz ?_ | fail) <;> (try refine z1z ?_))
        go_wp2_with ((first | refine z46z ?_ | (go_at_call 12; refine (refMCopy_any (d := m) (u := u2) (r2.out.ext TxR.stays hX) hmf.out).mono ?_; rintro e wf ⟨uc, rfl, cc, hx⟩; replace hxa := hxa.trans hx; replace i11 := i11.ext hx; replace f3 := f3.ext hx; replace f5 := f5.ext hx; replace hX := hX.trans hx; clear hx) | (refine z3rz ?_; intro v3 wc hx3 ho3; have o3 : OwnI _ wc v3 [] := ho3; clear ho3) | (refine z42z ?_; intro vm wd ho4 hb4 hg4 hl4; have hx4 := hx3.trans' hb4; rw [List.nil_append] at ho4; replace ho4 := ho4.mono hxa.size; replace hxa := hxa.trans hx4; replace i11 := i11.ext hx4; clear hb4 hg4 hl4 o3 hx3 hx4) | (go_at_call 10; refine (handle_held2 hHa hxa ho4 hsp.out hout.out hmR.out).mono ?_; rintro e wg ⟨ov, rfl, hH2, hr0, hmd⟩; rw [hfin.out] at hH2 hr0; replace i11 := ints_mod i11 hmd (fun k hk e => by have h9 := (ownI_lt o11 hk); exact Nat.lt_irrefl _ (Nat.lt_of_lt_of_le e h9)); replace hH := hH2; have f3 := f30.out.ext hH2.x; have f5 := f50.out.ext hH2.x; have hX := hX0.out.trans hH2.x; clear hHa hxa ho4 hmd hH2; have hr := hide_ hr0; clear hr0) | (go_at_call 16; refine (dec_held hH (l := L) hL.out hdl.out).mono ?_; rintro e wk1 ⟨u21, rfl, o21, hx⟩; have i21 := o21.ints; have hxb := hx; replace i11 := i11.ext hx; replace hH := hH.ext hx; replace f3 := f3.ext hx; replace f5 := f5.ext hx; replace hX := hX.trans hx; clear hx) | (go_at_call 19; refine (SameInts_any _ _ L _ i21 i11).mono ?_; rintro e wk2 ⟨rfl, hx⟩; replace hxb := hxb.trans hx; replace i11 := i11.ext hx; replace hH := hH.ext hx; replace f3 := f3.ext hx; replace f5 := f5.ext hx; replace hX := hX.trans hx; clear hx) | (go_at_call 17; refine (view_held hH (v := vv) hv.out).mono ?_; rintro e wk3 ⟨rfl, hx⟩; replace hxb := hxb.trans hx; replace i11 := i11.ext hx; replace hH := hH.ext hx; replace f3 := f3.ext hx; replace f5 := f5.ext hx; replace hX := hX.trans hx; clear hx) | (go_at_call 18; refine (stp_held hH (v := vs) hs.out).mono ?_; rintro e wk4 ⟨rfl, hx⟩; replace hxb := hxb.trans hx; replace i11 := i11.ext hx; replace hH := hH.ext hx; replace f3 := f3.ext hx; replace f5 := f5.ext hx; replace hX := hX.trans hx; clear hx) | (refine z27z ?_; rw [hn.out]) | refine z2vz ?_ | (refine z1yz ?_; rw [hgn.out]) | (refine z3wz ?_; rw [List.length_nil]) | fail) <;> (try refine z1z ?_))
        go_ret
        exact z3mz
      have tC : (m.kd == 6) = false := by simp [qc]
      have hm30 := hmR.out.heard (show 3 ≤ m.kd by omega)
      have hix0 : 0 ≤ m.ix := hm30.1.1.1
      obtain ⟨nn, hnn0⟩ : ∃ nn : Nat, m.ix = (nn : Int) := ⟨m.ix.toNat, by omega⟩
      have hnl0 : nn < L.length := by omega
      obtain ⟨x, hx0⟩ : ∃ x, L[nn] = x := ⟨_, rfl⟩
      have hnn := hide_ hnn0
      have hnl := hide_ hnl0
      have hxn := hide_ (show L[nn]'(hnl.out) = x from hx0)
      have hfin := hide_ (show c.handle m.msv [65536, 131072] = { c with out := [⟨m.fm, (⟨6, g.me, m.ix, 0, x, 0⟩ : MsV)⟩] } from by
        rw [hoff, if_neg (by rintro (q | q | q); exact qa q; exact qb q; exact qc q)]
        rw [show m.ix.toNat = nn by omega, List.getD_eq_getElem?_getD, List.getElem?_eq_getElem hnl0, hx0]
        rfl)
      clear qa qb qc hm30 hix0 hnn0 hnl0 hx0
      clear hsp1 hout1 ht1 hme1 hme2 hL0 hn0 hv0 hs0 hgn0 hdl1 hix hk3 hoff
      go_upto_region 19 with ((first | go_big_skip | (go_at_call 16; refine (dec_held hH hL.out hdl.out).mono ?_; rintro e wj ⟨u11, rfl, o11, hx⟩; have i11 := o11.ints; have hHa := hH; have hxa := hx; replace hH := hH.ext hx; replace f3 := f3.ext hx; replace f5 := f5.ext hx; replace hX := hX.trans hx; clear hx) | (go_at_call 17; refine (view_held hH hv.out).mono ?_; rintro e wj2 ⟨rfl, hx⟩; replace i11 := i11.ext hx; replace hxa := hxa.trans hx; replace hH := hH.ext hx; replace f3 := f3.ext hx; replace f5 := f5.ext hx; replace hX := hX.trans hx; clear hx) | (go_at_call 18; refine (stp_held hH hs.out).mono ?_; rintro e wj3 ⟨rfl, hx⟩; replace i11 := i11.ext hx; replace hxa := hxa.trans hx; replace hH := hH.ext hx; replace f3 := f3.ext hx; replace f5 := f5.ext hx; replace hX := hX.trans hx; clear hx) | (refine z27z ?_; rw [hn.out]) | refine z1uz ?_ | fail) <;> (try refine z1z ?_))
      go_upto_region 26 with ((first | refine z46z ?_ | (go_at_call 12; refine (refMCopy_any (d := m) (u := u2) (r2.out.ext TxR.stays hX) hmf.out).mono ?_; rintro e wf ⟨uc, rfl, cc, hx⟩; replace hxa := hxa.trans hx; replace i11 := i11.ext hx; replace f3 := f3.ext hx; replace f5 := f5.ext hx; replace hX := hX.trans hx; clear hx) | (refine z3rz ?_; intro v3 wc hx3 ho3; have o3 : OwnI _ wc v3 [] := ho3; clear ho3) | (refine z42z ?_; intro vm wd ho4 hb4 hg4 hl4; have hx4 := hx3.trans' hb4; rw [List.nil_append] at ho4; replace ho4 := ho4.mono hxa.size; replace hxa := hxa.trans hx4; replace i11 := i11.ext hx4; clear hb4 hg4 hl4 o3 hx3 hx4) | (go_at_call 10; refine (handle_held2 hHa hxa ho4 hsp.out hout.out hmR.out).mono ?_; rintro e wg ⟨ov, rfl, hH2, hr0, hmd⟩; rw [hfin.out] at hH2 hr0; replace i11 := ints_mod i11 hmd (fun k hk e => by have h9 := (ownI_lt o11 hk); exact Nat.lt_irrefl _ (Nat.lt_of_lt_of_le e h9)); replace hH := hH2; have f3 := f30.out.ext hH2.x; have f5 := f50.out.ext hH2.x; have hX := hX0.out.trans hH2.x; clear hHa hxa ho4 hmd hH2; have hr := hide_ hr0; clear hr0) | (go_at_call 16; refine (dec_held hH (l := L) hL.out hdl.out).mono ?_; rintro e wk1 ⟨u21, rfl, o21, hx⟩; have i21 := o21.ints; have hxb := hx; replace i11 := i11.ext hx; replace hH := hH.ext hx; replace f3 := f3.ext hx; replace f5 := f5.ext hx; replace hX := hX.trans hx; clear hx) | (go_at_call 19; refine (SameInts_any _ _ L _ i21 i11).mono ?_; rintro e wk2 ⟨rfl, hx⟩; replace hxb := hxb.trans hx; replace i11 := i11.ext hx; replace hH := hH.ext hx; replace f3 := f3.ext hx; replace f5 := f5.ext hx; replace hX := hX.trans hx; clear hx) | (go_at_call 17; refine (view_held hH (v := vv) hv.out).mono ?_; rintro e wk3 ⟨rfl, hx⟩; replace hxb := hxb.trans hx; replace i11 := i11.ext hx; replace hH := hH.ext hx; replace f3 := f3.ext hx; replace f5 := f5.ext hx; replace hX := hX.trans hx; clear hx) | (go_at_call 18; refine (stp_held hH (v := vs) hs.out).mono ?_; rintro e wk4 ⟨rfl, hx⟩; replace hxb := hxb.trans hx; replace i11 := i11.ext hx; replace hH := hH.ext hx; replace f3 := f3.ext hx; replace f5 := f5.ext hx; replace hX := hX.trans hx; clear hx) | (refine z27z ?_; rw [hn.out]) | refine z2vz ?_ | (refine z1yz ?_; rw [hgn.out]) | (refine z3wz ?_; rw [List.length_singleton]) | fail) <;> (try refine z1z ?_))
      obtain ⟨pa, hrow0, hpa0⟩ := act_addr (hr.out.ext AcR.stays hxb) (i := 0) rfl
      have hrow := hide_ hrow0
      have hpa := hide_ hpa0
      clear hrow0 hpa0
      go_wp2_with ((first | refine wpList_runs rfl (hpa.out _ _ _ (.tmp 133) (.const (.int .i64 0)) rfl rfl rfl) ?_ | ((with_reducible refine at_field ?_); refine w_pfieldB (t := 53) (i := 1) (off := 1) (by kernel_rfl) _ rfl rfl rfl ?_) | ((with_reducible refine at_load ?_); refine w_ploadN Tryz.stMsg (cs := mRow (⟨6, g.me, m.ix, 0, x, 0⟩ : MsV).msg (.slice none 0 0)) _ rfl rfl rfl (row_tail hrow.out) rfl ?_) | (refine z5ez ?_; intro g15 wz hgz hxz f15; have hxy := hide_ hxz) | ((with_reducible refine at_store ?_); refine w_astoreN Tryz.stMsg (us := mRow (⟨6, g.me, m.ix, 0, x, 0⟩ : MsV).msg (.slice none 0 0)) _ _ rfl rfl rfl rfl rfl f15 rfl rfl (m_one rfl) ?_; intro wy hmy f16; have hx := hmy.after hxy.out (fun j e => e ▸ hgz); replace f15 := f16; replace i11 := i11.ext hx; replace hrow := hide_ (hrow.out.ext hx); replace f3 := f3.ext hx; replace f5 := f5.ext hx; replace hX := hX.trans hx; clear hx) | fail) <;> (try refine z1z ?_))
      refine ztz ?_; intro wd hxd; have F3 := f3.ext hxd; have F5 := f5.ext hxd; have F15 := f15.ext hxd; have I11 := i11.ext hxd; have hrow1 := hrow.out.ext hxd
      refine Ph.rest 0 37 (by kernel_rfl) ?_
      refine LinL.st [(14, none)] rfl (opmv (ov)) ?_
      refine LinL.step (s := (.val (.pointer (some pa)))) [(137, some 0)] rfl (by kernel_rfl) (op_runs rfl fun σ w' hx hg => ⟨_, hpa.out _ σ.eval w' (.tmp 137) (.const (.int .i64 0)) rfl hg.1 rfl, rfl⟩) ?_
      refine LinL.step (s := (.val (.pointer (some (pa.add 0))))) [(138, some 0)] rfl (by kernel_rfl) (op_runs rfl fun σ w' hx hg => ⟨_, runs_pfieldB (ρ := σ.eval) (w := w') (t := 53) (i := 0) (off := 0) (by kernel_rfl) (.tmp 138) rfl hg.1, rfl⟩) ?_
      refine LinL.step (s := (.val (.int .i64 m.fm))) [(139, some 0)] rfl (by kernel_rfl) (op_runs rfl fun σ w' hx hg => ⟨_, runs_rowload (ρ := σ.eval) (w := w') (.tmp 139) rfl hg.1 (hrow1.ext hx) rfl (agg_of (by kernel_rfl) ), rfl⟩) ?_
      refine LinL.st [(5, none)] rfl (opmf g5 1 1) ?_
      refine LinL.st [(141, some 0)] rfl (opld (.int .i64 m.fm) F5) ?_
      refine LinL.step (s := (.val (.bool true))) [(140, some 2), (142, some 0)] rfl (by kernel_rfl) (op_runs rfl fun σ w' hx hg => ⟨(.bool true), by have h140 : σ.tmps.getD 140 undef = .int .i64 m.fm := hg.1; have h142 : σ.tmps.getD 142 undef = .int .i64 m.fm := hg.2.1; unfold Runs execOp; simp [Act.eval, h140, h142, go_sem], rfl⟩) ?_
      refine LinL.st [(143, some 0)] rfl (opcp (.val (.bool true))) ?_
      refine LinL.st [(15, none), (144, some 0)] rfl (op_yes (reads := [(15, none)]) 7 144 0 true rfl rfl rfl (opmf g15 0 0)) ?_
      refine LinL.st [(145, some 0), (144, some 1)] rfl (op_yes (reads := [(145, some 0)]) 7 144 1 true rfl rfl rfl (opld (.int .i64 (⟨6, g.me, m.ix, 0, x, 0⟩ : MsV).msg.kd) F15)) ?_
      refine LinL.step (s := (.val (.bool true))) [(146, some 0), (144, some 2)] rfl (by kernel_rfl) (op_yes (reads := [(146, some 0)]) 7 144 2 true rfl rfl rfl (op_runs rfl fun σ w' hx hg => ⟨(.bool true), by have h146 : σ.tmps.getD 146 undef = .int .i64 (⟨6, g.me, m.ix, 0, x, 0⟩ : MsV).msg.kd := hg.1; unfold Runs execOp; simp [Act.eval, h146, go_sem, MsV.msg], rfl⟩)) ?_
      refine LinL.step (s := (.val (.bool true))) [(144, some 3), (147, some 0)] rfl (by kernel_rfl) (op_runs rfl fun σ w' hx hg => ⟨_, runs_pick_t (ρ := σ.eval) (w := w') (.tmp 144) (.tmp 147) (.const (.bool false)) rfl hg.1 hg.2.1, rfl⟩) ?_
      refine LinL.st [(148, some 0)] rfl (opcp (.val (.bool true))) ?_
      refine LinL.st [(15, none), (149, some 0)] rfl (op_yes (reads := [(15, none)]) 12 149 0 true rfl rfl rfl (opmf g15 2 2)) ?_
      refine LinL.st [(150, some 0), (149, some 1)] rfl (op_yes (reads := [(150, some 0)]) 12 149 1 true rfl rfl rfl (opld (.int .i64 (⟨6, g.me, m.ix, 0, x, 0⟩ : MsV).msg.ix) F15)) ?_
      refine LinL.st [(5, none), (149, some 2)] rfl (op_yes (reads := [(5, none)]) 12 149 2 true rfl rfl rfl (opmf g5 2 2)) ?_
      refine LinL.st [(152, some 0), (149, some 3)] rfl (op_yes (reads := [(152, some 0)]) 12 149 3 true rfl rfl rfl (opld (.int .i64 m.ix) F5)) ?_
      refine LinL.step (s := (.val (.bool true))) [(151, some 2), (153, some 0), (149, some 4)] rfl (by kernel_rfl) (op_yes (reads := [(151, some 2), (153, some 0)]) 12 149 4 true rfl rfl rfl (op_runs rfl fun σ w' hx hg => ⟨(.bool true), by have h151 : σ.tmps.getD 151 undef = .int .i64 (⟨6, g.me, m.ix, 0, x, 0⟩ : MsV).msg.ix := hg.1; have h153 : σ.tmps.getD 153 undef = .int .i64 m.ix := hg.2.1; unfold Runs execOp; simp [Act.eval, h151, h153, go_sem, MsV.msg], rfl⟩)) ?_
      refine LinL.step (s := (.val (.bool true))) [(149, some 5), (154, some 0)] rfl (by kernel_rfl) (op_runs rfl fun σ w' hx hg => ⟨_, runs_pick_t (ρ := σ.eval) (w := w') (.tmp 149) (.tmp 154) (.const (.bool false)) rfl hg.1 hg.2.1, rfl⟩) ?_
      refine LinL.st [(155, some 0)] rfl (opcp (.val (.bool true))) ?_
      refine LinL.st [(15, none), (156, some 0)] rfl (op_yes (reads := [(15, none)]) 19 156 0 true rfl rfl rfl (opmf g15 4 4)) ?_
      refine LinL.st [(157, some 0), (156, some 1)] rfl (op_yes (reads := [(157, some 0)]) 19 156 1 true rfl rfl rfl (opld (.int .i64 (⟨6, g.me, m.ix, 0, x, 0⟩ : MsV).msg.vl) F15)) ?_
      refine LinL.st [(11, none), (156, some 2)] rfl (op_yes (reads := [(11, none)]) 19 156 2 true rfl rfl rfl (opmv (u11))) ?_
      refine LinL.st [(5, none), (156, some 3)] rfl (op_yes (reads := [(5, none)]) 19 156 3 true rfl rfl rfl (opmf g5 2 2)) ?_
      refine LinL.st [(160, some 0), (156, some 4)] rfl (op_yes (reads := [(160, some 0)]) 19 156 4 true rfl rfl rfl (opld (.int .i64 m.ix) F5)) ?_
      refine LinL.step (s := (Sp.ptr (.int .i64 (x)))) [(159, some 2), (161, some 0), (156, some 5)] rfl (by kernel_rfl) (op_yes (reads := [(159, some 2), (161, some 0)]) 19 156 5 true rfl rfl rfl (op_runs rfl fun σ w' hx hg => rptri (ρ := σ.eval) (w := w') (.tmp 159) (.tmp 161) rfl hg.1 (I11.ext hx) nn (by show σ.tmps.getD 161 undef = _; rw [hg.2.1, hnn.out]) hnl.out hxn.out)) ?_
      refine LinL.step (s := (.val (.int .i64 (x : Int)))) [(162, some 0), (156, some 6)] rfl (by kernel_rfl) (op_yes (reads := [(162, some 0)]) 19 156 6 true rfl rfl rfl (op_runs rfl fun σ w' hx hg => ⟨_, runs_load (ρ := σ.eval) (w := w') (.tmp 162) rfl Tryz.underlying3 rfl hg.1, rfl⟩)) ?_
      refine LinL.step (s := (.val (.bool true))) [(158, some 5), (163, some 0), (156, some 7)] rfl (by kernel_rfl) (op_yes (reads := [(158, some 5), (163, some 0)]) 19 156 7 true rfl rfl rfl (op_runs rfl fun σ w' hx hg => ⟨(.bool true), by have h158 : σ.tmps.getD 158 undef = .int .i64 (⟨6, g.me, m.ix, 0, x, 0⟩ : MsV).msg.vl := hg.1; have h163 : σ.tmps.getD 163 undef = .int .i64 (x : Int) := hg.2.1; unfold Runs execOp; simp [Act.eval, h158, h163, go_sem, MsV.msg], rfl⟩)) ?_
      refine LinL.step (s := (.val (.bool true))) [(156, some 8), (164, some 0)] rfl (by kernel_rfl) (op_runs rfl fun σ w' hx hg => ⟨_, runs_pick_t (ρ := σ.eval) (w := w') (.tmp 156) (.tmp 164) (.const (.bool false)) rfl hg.1 hg.2.1, rfl⟩) ?_
      refine LinL.st [(165, some 0)] rfl (opcp (.val (.bool true))) ?_
      refine LinL.st [(15, none), (166, some 0)] rfl (op_yes (reads := [(15, none)]) 29 166 0 true rfl rfl rfl (opmf g15 1 1)) ?_
      refine LinL.st [(167, some 0), (166, some 1)] rfl (op_yes (reads := [(167, some 0)]) 29 166 1 true rfl rfl rfl (opld (.int .i64 (⟨6, g.me, m.ix, 0, x, 0⟩ : MsV).msg.fm) F15)) ?_
      refine LinL.st [(3, none), (166, some 2)] rfl (op_yes (reads := [(3, none)]) 29 166 2 true rfl rfl rfl (opfo 0 0 0 g3)) ?_
      refine LinL.st [(169, some 0), (166, some 3)] rfl (op_yes (reads := [(169, some 0)]) 29 166 3 true rfl rfl rfl (opld (.int .i64 g.me) F3)) ?_
      refine LinL.step (s := (.val (.bool true))) [(168, some 2), (170, some 0), (166, some 4)] rfl (by kernel_rfl) (op_yes (reads := [(168, some 2), (170, some 0)]) 29 166 4 true rfl rfl rfl (op_runs rfl fun σ w' hx hg => ⟨(.bool true), by have h168 : σ.tmps.getD 168 undef = .int .i64 (⟨6, g.me, m.ix, 0, x, 0⟩ : MsV).msg.fm := hg.1; have h170 : σ.tmps.getD 170 undef = .int .i64 g.me := hg.2.1; unfold Runs execOp; simp [Act.eval, h168, h170, go_sem, MsV.msg], rfl⟩)) ?_
      refine LinL.step (s := (.val (.bool true))) [(166, some 5), (171, some 0)] rfl (by kernel_rfl) (op_runs rfl fun σ w' hx hg => ⟨_, runs_pick_t (ρ := σ.eval) (w := w') (.tmp 166) (.tmp 171) (.const (.bool false)) rfl hg.1 hg.2.1, rfl⟩) ?_
      refine LinL.st [(172, some 0)] rfl (opcp (.val (.bool true))) ?_
      intro wN hxN
      simp only [Fin', Sp.ptr, List.reverse_cons, List.reverse_nil, List.nil_append, List.cons_append, List.drop_zero, List.take_succ_cons, List.take_zero]
      intro q162 hq162
      refine z1z ?_
      replace hX := hX.trans (hxd.trans hxN)
      go_wp2
      go_ret
      exact z3mz
    · have hlt : k < l.length := by omega
      have t2 : decide ((k : Int) < (l.length : Int)) = true := by simp; omega
      have t2' : decide (k < l.length) = true := by simpa using hlt
      have hkl := hide_ hlt
      have hkb : k < 9223372036854775807 := by omega
      obtain ⟨d, hd0⟩ : ∃ d, l[k]? = some d := ⟨_, List.getElem?_eq_getElem hlt⟩
      have hd := hide_ hd0
      by_cases q1 : d.k = 1
      · have t1 : (d.k == 1) = true := by simp [q1]
        clear hge hlt hd0 q1 hsp1 hout1 ht1 hme1
        go_wp2_with ((first | go_big_skip | (refine z2xz ?_; intro pa ua hrow hua hraw; replace hrow := hide_ hrow; replace hua := hide_ hua; have hav := hide_ hraw.vl; have hap := hide_ hraw.bk.parent; have haf := hide_ hraw.few; clear hraw) | refine z38z ?_ | (refine z41z ?_; intro ga wa hga hxa fa) | (refine z2lz ?_; intro wb hmb fb; have hx := hmb.after hxa (fun j e => e ▸ hga); replace hH := hH.ext hx; replace hX := hX.trans hx; clear hx hxa hmb fa hga) | refine zsz ?_ | ((with_reducible refine at_lit ?_); refine w_new Tryz.elI (o := ⟨some 53, _, _, _, _, _⟩) (i64s []) rfl rfl rfl (i64s_cells _) rfl (by omega) ?_; intro v3 wc hx3 ho3; have o3 : OwnI _ wc v3 [] := ho3; clear ho3) | ((with_reducible refine at_bi ?_); refine appi _ _ rfl rfl rfl rfl o3 ((ik.out.ext hH.x).ext hx3) (by decide) hx3.size ?_; intro vm wd ho4 hb4 hg4 hl4; have hx4 := hx3.trans' hb4; rw [List.nil_append] at ho4; clear hb4 hg4 hl4 o3 hx3) | (go_at_call 13; refine (tick_held hH hx4 ho4 hsp.out hout.out nv_A).mono ?_; rintro e wg ⟨ov, rfl, hH2, _⟩) | fail) <;> (try refine z1z ?_))
        go_roundw
        case rel => exact ⟨k + 1, _, by go_num, hkl.out, hH2, spk_flush (spk_tick hsp.out NV.zero nv_A _), rfl, (like_tick _ _ _).2.1.trans ht.out, (like_tick _ _ _).1.trans hme.out⟩
        case measure => have := hkl.out; simp [RowKit.intOf]; omega
      have t1 : (d.k == 1) = false := by simp [q1]
      by_cases q2 : d.m.Right
      · have har := hide_ (decide_eq_true q2)
        have hmRd := hide_ q2
        clear hge hlt hd0 q1 q2 hsp1 hout1 ht1 hme1
        go_wp2_with ((first | go_big_skip | (refine z2xz ?_; intro pa ua hrow hua hraw; replace hrow := hide_ hrow; replace hua := hide_ hua; have hav := hide_ hraw.vl; have hap := hide_ hraw.bk.parent; have haf := hide_ hraw.few; clear hraw) | refine z38z ?_ | (refine z41z ?_; intro ga wa hga hxa fa) | (refine z2lz ?_; intro wb hmb fb; have hx := hmb.after hxa (fun j e => e ▸ hga); replace hH := hH.ext hx; replace hX := hX.trans hx; clear hx hxa hmb fa hga) | refine zsz ?_ | (go_at_call 11; refine (refMRight_any (d := d.m) (u := ua) (hua.out.ext TxR.stays hX) hav.out hap.out).mono ?_; rintro e we ⟨rfl, hx⟩; rw [har.out]; replace fb := fb.ext hx; replace hH := hH.ext hx; have hxe := hx; replace hX := hX.trans hx; clear hx) | (go_at_call 12; refine (refMCopy_any (d := d.m) (u := ua) (hua.out.ext TxR.stays hX) haf.out).mono ?_; rintro e wf ⟨uc, rfl, cc, hx⟩; replace hH := hH.ext hx; replace hX := hX.trans hx; clear hx) | (refine z4lz ?_; intro v3 wc hx3 ho3; have o3 : OwnI _ wc v3 [] := ho3; clear ho3) | ((with_reducible refine at_bi ?_); refine appi _ _ rfl rfl rfl rfl o3 ((ik.out.ext hH.x).ext hx3) (by decide) hx3.size ?_; intro vm wd ho4 hb4 hg4 hl4; have hx4 := hx3.trans' hb4; rw [List.nil_append] at ho4; clear hb4 hg4 hl4 o3 hx3) | (go_at_call 10; refine (handle_held hH hx4 ho4 hsp.out hout.out hmRd.out).mono ?_; rintro e wg ⟨ov, rfl, hH2, _⟩) | fail) <;> (try refine z1z ?_))
        go_roundw
        case rel => exact ⟨k + 1, _, by go_num, hkl.out, hH2, spk_flush (spk_handleR hsp.out hmRd.out), rfl, (like_handle _ _ _).2.1.trans ht.out, (like_handle _ _ _).1.trans hme.out⟩
        case measure => have := hkl.out; simp [RowKit.intOf]; omega
      have har := hide_ (decide_eq_false q2)
      clear hge hlt hd0 q1 q2 hsp1 hout1 ht1 hme1
      go_wp2_with ((first | go_big_skip | (refine z2xz ?_; intro pa ua hrow hua hraw; replace hrow := hide_ hrow; replace hua := hide_ hua; have hav := hide_ hraw.vl; have hap := hide_ hraw.bk.parent; have haf := hide_ hraw.few; clear hraw) | refine z38z ?_ | (refine z41z ?_; intro ga wa hga hxa fa) | (refine z2lz ?_; intro wb hmb fb; have hx := hmb.after hxa (fun j e => e ▸ hga); replace hH := hH.ext hx; replace hX := hX.trans hx; clear hx hxa hmb fa hga) | refine zsz ?_ | (go_at_call 11; refine (refMRight_any (d := d.m) (u := ua) (hua.out.ext TxR.stays hX) hav.out hap.out).mono ?_; rintro e we ⟨rfl, hx⟩; rw [har.out]; replace fb := fb.ext hx; replace hH := hH.ext hx; have hxe := hx; replace hX := hX.trans hx; clear hx) | fail) <;> (try refine z1z ?_))
      go_roundw
      case rel => exact ⟨k + 1, c, by go_num, hkl.out, hH, hsp.out, hout.out, ht.out, hme.out⟩
      case measure => have := hkl.out; simp [RowKit.intOf]; omega
theorem checkTold_lifted (os : Os) (started : os.Started) (H : Type) (enc : TypeId × Value → H) :
    ReturnsInHanded {} Tryz.checked os 4 .any (Rows.checkToldSpec.pre6 enc Tryz.prog Tryz.f4 Rows.checkToldRow.domain false) (Rows.checkToldSpec.post enc Tryz.prog Tryz.f4 false true false false) := by
  refine law_lifted (s := Rows.checkToldSpec) (conds := Rows.checkToldRow.domain) Tryz.func4 (by kernel_rfl) rfl (fun H ds h => by
      rw [show Tryz.f4.params.size = 3 from rfl] at h
      match ds, h with
      | [d0, d1, d2], _ => rfl) rfl rfl (by decide +kernel) os started H enc
    (ChangeSpec.witness6 (enc := enc) (C := Tryz.checked) false ⟨#[], #[.agg #[.int .i64 0, .int .i64 0, .int .i64 0, .slice none 0 0], .slice none 0 0, .agg #[.int .i64 0, .int .i64 0, .int .i64 0, .int .i64 0, .int .i64 0, .int .i64 0, .int .i64 0, .int .i64 0, .int .i64 0, .int .i64 0, .int .i64 0, .int .i64 0, .slice none 0 0]], []⟩ 8 (by kernel_rfl) (by kernel_rfl) (by kernel_rfl) (by kernel_rfl)) ?_
  intro W base args ds p hval hA hsz _
  have hp : Tryz.f4.params.toList = [24, 56, 42] := rfl
  rw [hp] at hA hsz
  obtain ⟨v0, v1, v2, d0, d1, d2, p0, p1, p2, rfl, rfl, rfl, h0, h1, h2⟩ := trodAll_three hA
  obtain ⟨row0, g0, rfl, _, ⟨u0, rfl, a0⟩, b0, c0⟩ := arg_Cf hsz (j := 0) rfl rfl (hval 0 24 v0 rfl rfl) h0
  obtain ⟨l1, a1⟩ := arg_AcEs hsz (j := 1) rfl rfl (hval 1 56 v1 rfl rfl) h1
  obtain ⟨row2, d2, rfl, _, ⟨u2, rfl, a2⟩, b2⟩ := arg_Msg hsz (j := 2) rfl rfl (hval 2 42 v2 rfl rfl) h2
  exact checkTold_law v1 u0 u2 g0 l1 d2 W a0 c0 a1 a2 b2
theorem checkTold_holds : Rows.CheckToldSaid :=
  OpenClaim.holds_of_wide 4 Tryz.f4 rfl rfl rfl rfl rfl rfl rfl ⟨rfl, rfl, rfl, rfl, rfl⟩ rfl rfl rfl rfl rfl (by kernel_rfl) Tryz.func4 (by kernel_rfl)
    (of_decide_eq_true (by kernel_rfl)) (by unfold Func.isWrapper; first | (rw [if_pos (by decide +kernel)]; kernel_rfl) | (rw [if_neg (by decide +kernel)]; exact ⟨rfl, rfl⟩))
    (fun os started H enc _ => checkTold_lifted os started H enc)
#print axioms checkTold_holds
end Go.Proofs.YtajkjiegcmpjaaaGreat
