/- The statement CheckSpeaks: all that a core sends can be said, is its own, and of no index or view ahead of its own. No condition. -/
import Derived.Test.YtajkjiegcmpjaaaGreatPk22
namespace Go.Proofs.YtajkjiegcmpjaaaGreat
set_option maxHeartbeats 3200000
set_option maxRecDepth 100000
open Go.RowKit Go.ChangeShapes Go.WideShapes Go.ChangeAt
theorem nv_i64 {m : MsV} (h : m.Ok NV) : I64 m.msg.vl := by
  have key : ∀ x, (x = -1 ∨ NV x) → I64 x := fun x hx => by
    rcases hx with rfl | hx
    · exact ⟨by decide, by decide⟩
    · have := hx.in64; exact this
  rcases h.2 with q | q | q
  · exact key _ (.inr q.2.1)
  · exact key _ q.2.1
  · exact key _ (.inr q.2.1)
theorem checkSpeaks_law (v1 v2 ug : Value) (g : CfD) (kl : List Int) (l : List AcE) (W : World) (hu0 : Ints W ug g.st) (hgl : g.st.length * 8 ≤ 140737488351232) (h0 : Ints W v1 kl) (hki : I64s kl) (hk8 : kl.length * 8 ≤ 140737488351232) (h1 : Recs 15 AcER W v2 l) :
    Calls Tryz.prog 5 #[.agg (g.row ug).toArray, v1, v2] W fun e w' => e = .returned (.bool true) ∧ Ext W w' := by
  refine z30z ?_
  have hu := hide_ hu0
  have r1 := hide_ h1
  have hbig := hide_ (show (([] : List Int).length + g.st.length) * 8 ≤ 140737488355328 from by simp; omega)
  have hlmax := h1.len_le
  unfold maxLen at hlmax
  have hX := Ext.refl W
  have kv1 := hide_ h0
  have ki := hide_ hki
  have kl8 := hide_ hk8
  have kbig := hide_ (show (([] : List Int).length + kl.length) * 8 ≤ 140737488355328 from by simp; omega)
  obtain ⟨kn, hkn1⟩ : ∃ n : Int, (kl.length : Int) = n := ⟨_, rfl⟩
  have hkn := hide_ hkn1
  by_cases hg0 : g.Ok
  rotate_left
  · have hok := hide_ (decide_eq_false hg0)
    clear hu0 h1 h0 hki hk8 hg0 hkn1
    go_enter Tryz.func5, Tryz.ntmps5
    go_wp2_with ((first | go_big_skip | (refine z2zz ?_; intro g3 w1 hg3 hx f3; replace hX := hX.trans hx; clear hx) | (go_at_call 6; refine alive_any.mono ?_; rintro e w3 ⟨rfl, hx⟩; replace f3 := f3.ext hx; replace hX := hX.trans hx; clear hx) | refine z32z ?_ | (go_at_call 7; refine (right_any (hu.out.ext hX)).mono ?_; rintro e w4 ⟨rfl, hx⟩; rw [hok.out]; replace f3 := f3.ext hx; replace hX := hX.trans hx; clear hx) | refine z25z ?_ | (refine z48z ?_; rw [hkn.out]) | fail) <;> (try refine z1z ?_))
    go_ret
    exact z3mz
  have hok := hide_ (decide_eq_true hg0)
  have hg := hide_ hg0
  by_cases h60 : (80 : Int) < (l.length : Int)
  · have tA : decide ((l.length : Int) > 80) = true := decide_eq_true h60
    have tA' : decide ((80 : Int) < (l.length : Int)) = true := decide_eq_true h60
    clear hu0 h1 h0 hki hk8 hg0 hkn1
    go_enter Tryz.func5, Tryz.ntmps5
    go_wp2_with ((first | go_big_skip | (refine z2zz ?_; intro g3 w1 hg3 hx f3; replace hX := hX.trans hx; clear hx) | (go_at_call 6; refine alive_any.mono ?_; rintro e w3 ⟨rfl, hx⟩; replace f3 := f3.ext hx; replace hX := hX.trans hx; clear hx) | refine z32z ?_ | (go_at_call 7; refine (right_any (hu.out.ext hX)).mono ?_; rintro e w4 ⟨rfl, hx⟩; rw [hok.out]; replace f3 := f3.ext hx; replace hX := hX.trans hx; clear hx) | refine z25z ?_ | (refine z48z ?_; rw [hkn.out]) | fail) <;> (try refine z1z ?_))
    go_ret
    exact z3mz
  have tA : decide ((l.length : Int) > 80) = false := decide_eq_false h60
  have tA' : decide ((80 : Int) < (l.length : Int)) = false := decide_eq_false h60
  by_cases h20 : (20 : Int) < kn
  · have tB : decide (kn > 20) = true := decide_eq_true h20
    have tB' : decide ((20 : Int) < kn) = true := decide_eq_true h20
    clear hu0 h1 h0 hki hk8 hg0 hkn1
    go_enter Tryz.func5, Tryz.ntmps5
    go_wp2_with ((first | go_big_skip | (refine z2zz ?_; intro g3 w1 hg3 hx f3; replace hX := hX.trans hx; clear hx) | (go_at_call 6; refine alive_any.mono ?_; rintro e w3 ⟨rfl, hx⟩; replace f3 := f3.ext hx; replace hX := hX.trans hx; clear hx) | refine z32z ?_ | (go_at_call 7; refine (right_any (hu.out.ext hX)).mono ?_; rintro e w4 ⟨rfl, hx⟩; rw [hok.out]; replace f3 := f3.ext hx; replace hX := hX.trans hx; clear hx) | refine z25z ?_ | (refine z48z ?_; rw [hkn.out]) | fail) <;> (try refine z1z ?_))
    go_ret
    exact z3mz
  have tB : decide (kn > 20) = false := decide_eq_false h20
  have tB' : decide ((20 : Int) < kn) = false := decide_eq_false h20
  clear hu0 h1 h0 hki hk8 hkn1
  go_enter Tryz.func5, Tryz.ntmps5
  go_wp2_with ((first | go_big_skip | (refine z2zz ?_; intro g3 w1 hg3 hx f3; replace hX := hX.trans hx; clear hx) | (go_at_call 6; refine alive_any.mono ?_; rintro e w3 ⟨rfl, hx⟩; replace f3 := f3.ext hx; replace hX := hX.trans hx; clear hx) | refine z32z ?_ | (go_at_call 7; refine (right_any (hu.out.ext hX)).mono ?_; rintro e w4 ⟨rfl, hx⟩; rw [hok.out]; replace f3 := f3.ext hx; replace hX := hX.trans hx; clear hx) | refine z25z ?_ | (refine z48z ?_; rw [hkn.out]) | (go_at_call 20; refine (blocks_any (kv1.out.ext hX) ki.out kl8.out).mono ?_; rintro e wk ⟨rb, rfl, hx, hnv0⟩; replace f3 := f3.ext hx; replace hX := hX.trans hx; clear hx; have hnv := hide_ hnv0; clear hnv0; cases rb) | fail) <;> (try refine z1z ?_))
  · go_ret
    exact z3mz
  replace hnv := hide_ (show ∀ x ∈ kl, NV x from by first | exact hnv.out rfl | exact hnv.out trivial)
  refine wp_region_chain [0, 1, 3, 4, 6, 7, 8, 9] [2, 5, 10, 11] [] (fun i => ([34, 35, 36, 37, 38, 39, 40, 41, 42, 43, 44, 7] : List Nat).getD i 0) (fun i x => x = ([(.pointer (some ⟨g3, 0, none⟩)), (.int .i64 g.me), undef, (.pointer (some ⟨g3, 3, none⟩)), (ug), undef, (.pointer (some ⟨g3, 1, none⟩)), (.int .i64 g.base), (.pointer (some ⟨g3, 2, none⟩)), (.int .i64 g.most), undef, undef] : List Value).getD i undef) (JN wk g) (by kernel_rfl) (by kernel_rfl) (by kernel_rfl) (by decide) (by kernel_rfl) (by decide) (by decide) (by decide) (by intro i hi; show _ < 154; revert i; decide) (by kernel_rfl) (fun w1 h => h) ?_ ?_ ?_
  · intro i hi m x b w' hJ hlat hpre hout hdep
    rcases (show i = 0 ∨ i = 1 ∨ i = 3 ∨ i = 4 ∨ i = 6 ∨ i = 7 ∨ i = 8 ∨ i = 9 by simp at hi; omega) with rfl | rfl | rfl | rfl | rfl | rfl | rfl | rfl
    · have e3 : b.tmps.getD 3 undef = .pointer (some ⟨g3, 0, none⟩) := hout 3 (by decide)
      exact z7jz
    · have e34 : b.tmps.getD 34 undef = .pointer (some ⟨g3, 0, none⟩) := hdep 0 (by decide) (by kernel_rfl)
      have hx : Ext wk w' := JN.ext hJ (hlat 2 (by decide) (by kernel_rfl))
      refine znz ?_
      refine w_fload (.tmp 34) rfl rfl e34 (f3.ext hx) rfl (agg_of (by kernel_rfl)) ?_
      exact z2nz
    · have e3 : b.tmps.getD 3 undef = .pointer (some ⟨g3, 0, none⟩) := hout 3 (by decide)
      exact z7kz
    · have e37 : b.tmps.getD 37 undef = .pointer (some ⟨g3, 3, none⟩) := hdep 3 (by decide) (by kernel_rfl)
      have hx : Ext wk w' := JN.ext hJ (hlat 1 (by decide) (by kernel_rfl))
      refine znz ?_
      refine w_fload (.tmp 37) rfl rfl e37 (f3.ext hx) rfl (agg_of (by kernel_rfl)) ?_
      exact z2nz
    · have e3 : b.tmps.getD 3 undef = .pointer (some ⟨g3, 0, none⟩) := hout 3 (by decide)
      exact z7lz
    · have e40 : b.tmps.getD 40 undef = .pointer (some ⟨g3, 1, none⟩) := hdep 6 (by decide) (by kernel_rfl)
      have hx : Ext wk w' := JN.ext hJ (hlat 2 (by decide) (by kernel_rfl))
      refine znz ?_
      refine w_fload (.tmp 40) rfl rfl e40 (f3.ext hx) rfl (agg_of (by kernel_rfl)) ?_
      exact z2nz
    · have e3 : b.tmps.getD 3 undef = .pointer (some ⟨g3, 0, none⟩) := hout 3 (by decide)
      exact z7mz
    · have e42 : b.tmps.getD 42 undef = .pointer (some ⟨g3, 2, none⟩) := hdep 8 (by decide) (by kernel_rfl)
      have hx : Ext wk w' := JN.ext hJ (hlat 2 (by decide) (by kernel_rfl))
      refine znz ?_
      refine w_fload (.tmp 42) rfl rfl e42 (f3.ext hx) rfl (agg_of (by kernel_rfl)) ?_
      exact z2nz
  · intro m hm x b w' hJ hpr hout hdep
    rcases (show m = 0 ∨ m = 1 ∨ m = 2 ∨ m = 3 by simp at hm; omega) with rfl | rfl | rfl | rfl
    · show wpOp _ _ _ 2 _ _ _
      refine znz ?_
      refine w_new Tryz.elI (i64s []) rfl rfl rfl (i64s_cells _) rfl (by omega) ?_
      intro v5 w5 hx5 o5
      have hJ0 : Ext wk w' := hJ
      exact ⟨_, rfl, hJ0.trans hx5, (show OwnI _ w5 v5 [] from o5).mono hJ0.size⟩
    · have e36 : b.tmps.getD 36 undef = x := hpr (by omega) rfl
      have e38 : b.tmps.getD 38 undef = ug := hdep 4 (by decide) (by kernel_rfl)
      show wpOp _ _ _ 5 _ _ _
      obtain ⟨hx, o5⟩ := hJ
      refine znz ?_
      refine appi (.tmp 36) (.tmp 38) rfl rfl e36 e38 o5 ((hu.out.ext hX).ext hx) hbig.out hx.size ?_
      intro v9 w9 o9 hb9 hg9 hg9'
      exact ⟨_, rfl, hx.trans' hb9, by rw [List.nil_append] at o9; exact o9.ints⟩
    · have e35 : b.tmps.getD 35 undef = .int .i64 g.me := hdep 1 (by decide) (by kernel_rfl)
      have e39 : b.tmps.getD 39 undef = x := hpr (by omega) rfl
      have e41 : b.tmps.getD 41 undef = .int .i64 g.base := hdep 7 (by decide) (by kernel_rfl)
      have e43 : b.tmps.getD 43 undef = .int .i64 g.most := hdep 9 (by decide) (by kernel_rfl)
      show wpOp _ _ _ 10 _ _ _
      obtain ⟨hx, hi⟩ := hJ
      refine wpOp_call 9 #[.int .i64 g.me, x, .int .i64 g.base, .int .i64 g.most] 44 rfl rfl rfl rfl (fun _ _ => rfl) (by simp only [List.map_toArray, List.map_cons, List.map_nil, Act.eval, e35, e39, e41, e43]) ?_
      refine (new_held hg.out hx hi).mono ?_
      rintro e w2 ⟨p, rfl, hp⟩
      exact ⟨_, rfl, _, rfl, p, rfl, hp⟩
    · have e44 : b.tmps.getD 44 undef = x := hpr (by omega) rfl
      show wpOp _ _ _ 11 _ _ _
      obtain ⟨p, rfl, hp⟩ := hJ
      refine znz ?_
      refine w_mvC (.tmp 44) rfl (.inr rfl) e44 ?_
      exact ⟨_, rfl, p, rfl, hp⟩
  intro wn x0 x hJ hv hl
  obtain ⟨p, ex0, hp⟩ := hJ
  have hl' : x 11 = .pointer (some ⟨p, 0, none⟩) := (hl (by decide) (by kernel_rfl)).trans ex0
  simp only [List.cons_append, List.nil_append, List.foldl_cons, List.foldl_nil, hl']
  clear hl hl' ex0
  generalize x 0 = x100
  generalize x 1 = x101
  generalize x 2 = x102
  generalize x 3 = x103
  generalize x 4 = x104
  generalize x 5 = x105
  generalize x 6 = x106
  generalize x 7 = x107
  generalize x 8 = x108
  generalize x 9 = x109
  generalize x 10 = x110
  refine z24z ?_
  clear hv
  have hX0 := hide_ hX
  have f30 := hide_ f3
  have hsp0 := spk0 hg.out
  clear f3 hX hg0
  go_wp2_with ((first | refine z6ez ?_ | fail) <;> (try refine z1z ?_))
  go_loopw [47] (fun i wr => ∃ (k : Nat) (c : CoD), i = .int .i64 k ∧ k ≤ l.length ∧ Held wk wr p c ∧ Spk NV c.idx c ∧ c.out = [] ∧ c.t = g.st ∧ c.me = g.me.toNat) (fun i _ => l.length - (RowKit.intOf i).toNat)
  case atStart => exact ⟨0, _, rfl, Nat.zero_le _, hp, hsp0, rfl, rfl, rfl⟩
  case round =>
    clear hp hsp0
    obtain ⟨k, c, rfl, hk, hH, hsp1, hout1, ht1, hme1⟩ := hrel
    have hsp := hide_ hsp1
    have hout := hide_ hout1
    have ht := hide_ ht1
    have hme := hide_ hme1
    have hX := hX0.out.trans hH.x
    by_cases hge : l.length ≤ k
    · obtain rfl : k = l.length := by omega
      have t2 : decide ((l.length : Int) < (l.length : Int)) = false := by simp
      have t2' : decide (l.length < l.length) = false := by simp
      obtain ⟨L, hL0⟩ : ∃ L, c.dec = L := ⟨_, rfl⟩
      obtain ⟨n, hn0⟩ : ∃ n : Int, (L.length : Int) = n := ⟨_, rfl⟩
      have hn := hide_ hn0
      have hn1 := hide_ (show ((c.dec.length : Nat) : Int) = n from by rw [hL0]; exact hn0)
      have hL := hide_ hL0
      have hdl := hide_ (show L.length ≤ 1001 from by rw [← hL0]; exact hsp1.1.dl)
      have tn : (n == n) = true := by simp
      clear hge hsp1 hout1 ht1 hme1 hL0 hn0
      go_wp2_with ((first | go_big_skip | (go_at_call 21; refine (index_held hH).mono ?_; rintro e wi ⟨rfl, hx⟩; rw [hn1.out]; replace hH := hH.ext hx; replace hX := hX.trans hx; clear hx) | (go_at_call 16; refine (dec_held hH hL.out hdl.out).mono ?_; rintro e wj ⟨u11, rfl, o11, hx⟩; have i11 := o11.ints; replace hH := hH.ext hx; replace hX := hX.trans hx; clear hx) | ((with_reducible refine at_bi ?_); refine i_len _ rfl rfl rfl i11 ?_; rw [hn.out]) | fail) <;> (try refine z1z ?_))
      go_ret
      exact z3mz
    have hlt : k < l.length := by omega
    have t2 : decide ((k : Int) < (l.length : Int)) = true := by simp; omega
    have t2' : decide (k < l.length) = true := by simpa using hlt
    have hkl := hide_ hlt
    have hkb : k < 9223372036854775807 := by omega
    obtain ⟨d, hd0⟩ : ∃ d, l[k]? = some d := ⟨_, List.getElem?_eq_getElem hlt⟩
    have hd := hide_ hd0
    obtain ⟨i0, hi00⟩ : ∃ n : Int, ((c.dec.length : Nat) : Int) = n := ⟨_, rfl⟩
    have hi0 := hide_ hi00
    by_cases q1 : d.k = 1
    · have t1 : (d.k == 1) = true := by simp [q1]
      have hkn0 := hkn.out
      by_cases hke : kl.length = 0
      · have hkl0 := hide_ hke
        have tk : decide (kn > 0) = false := decide_eq_false (by omega)
        have tk' : decide (0 < kn) = false := decide_eq_false (by omega)
        have htip := hide_ NV.zero
        clear hge hlt hd0 q1 hsp1 hout1 ht1 hme1 hi00 hke hkn0
        go_upto_region 20 with ((first | go_big_skip | (refine z2xz ?_; intro pa ua hrow hua hraw; replace hrow := hide_ hrow; replace hua := hide_ hua; have hav := hide_ hraw.vl; have hap := hide_ hraw.bk.parent; have haf := hide_ hraw.few; clear hraw) | refine z38z ?_ | (refine z41z ?_; intro ga wa hga hxa fa) | (refine z2lz ?_; intro wb hmb fb; have hx := hmb.after hxa (fun j e => e ▸ hga); replace hH := hH.ext hx; replace hX := hX.trans hx; clear hx hxa hmb fa hga) | refine zsz ?_ | (go_at_call 21; refine (index_held hH).mono ?_; rintro e wi ⟨rfl, hx⟩; rw [hi0.out]; replace hH := hH.ext hx; replace fb := fb.ext hx; replace hX := hX.trans hx; clear hx) | (refine z3xz ?_; intro ov0 wn0 B hB1 hB2 hx hn1; have hr0 := hide_ (RowN.acts (l := []) hn1); replace hH := hH.ext hx; replace fb := fb.ext hx; replace hX := hX.trans hx; clear hx hB1 hB2 hn1) | ((with_reducible refine at_bi ?_); refine i_len _ rfl rfl rfl (kv1.out.ext hX) ?_; rw [hkn.out]) | (refine z4lz ?_; intro v3 wc hx3 ho3; have o3 : OwnI _ wc v3 [] := ho3; clear ho3) | (refine z57z ?_; intro vm wd ho4 hb4 hg4 hl4; have hx4 := hx3.trans' hb4; rw [List.nil_append] at ho4; clear hb4 hg4 hl4 o3 hx3) | (go_at_call 13; refine (tick_held (tip := 0) hH hx4 ho4 hsp.out hout.out htip.out).mono ?_; rintro e wt ⟨ov, rfl, hH2, hr1⟩) | fail) <;> (try refine z1z ?_))
        obtain ⟨c1, hc1⟩ : ∃ x, c.tick kl 0 = x := ⟨_, rfl⟩
        have hs1 := spk_tick hsp.out NV.zero htip.out kl
        have hk1 := like_tick c kl 0
        rw [hc1] at hH2 hr1 hs1 hk1
        have hr := hide_ hr1
        have hsp1 := hide_ hs1
        have ht1 := hide_ (hk1.2.1.trans ht.out)
        have hme1 := hide_ (hk1.1.trans hme.out)
        replace hH := hide_ hH2
        clear hH2 hr1 hs1 hk1 hc1
        go_wp2_with ((first | refine z5az ?_ | fail) <;> (try refine z1z ?_))
        go_loopw [82] (fun i wr2 => ∃ j : Nat, i = .int .i64 j ∧ j ≤ c1.out.length ∧ Ext wt wr2) (fun i _ => c1.out.length - (RowKit.intOf i).toNat)
        case atStart => exact z69z
        case round =>
          obtain ⟨j, rfl, hj, hxt⟩ := hrel
          by_cases hgj : c1.out.length ≤ j
          · obtain rfl : j = c1.out.length := by omega
            have t3 : decide ((c1.out.length : Int) < (c1.out.length : Int)) = false := by simp
            have t3' : decide (c1.out.length < c1.out.length) = false := by simp
            clear hgj
            go_wp2
            go_roundw
            case rel => exact z55z
            case measure => have := hkl.out; simp [RowKit.intOf]; omega
          have hlt : j < c1.out.length := by omega
          have t3 : decide ((j : Int) < (c1.out.length : Int)) = true := by simp; omega
          have t3' : decide (j < c1.out.length) = true := by simpa using hlt
          have hjl := hide_ hlt
          have hjb : j < 9223372036854775807 := by have := hr.out.len_le; unfold maxLen at this; omega
          obtain ⟨a, ha0⟩ : ∃ a, c1.out[j]? = some a := ⟨_, List.getElem?_eq_getElem hlt⟩
          have ha := hide_ ha0
          obtain ⟨k1, k2, k3, k4, k5, k6⟩ := hsp1.out.2.2 a (List.mem_of_getElem? ha0)
          have hst7 := hg.out.st.2.1
          have hfm : a.m.msg.fm = g.me := by show a.m.fm = g.me; rw [k2, hme1.out]; have := hg.out.me; omega
          have hmr := hide_ (decide_eq_true (k1.right ⟨by rw [k2]; omega, by rw [k2]; have := hsp1.out.1.lt; rw [ht1.out] at this; omega⟩))
          have hvl := hide_ (show I64 a.m.msg.vl from by
            have := (k1.right ⟨by rw [k2]; omega, by rw [k2]; have := hsp1.out.1.lt; rw [ht1.out] at this; omega⟩ : a.m.msg.Right)
            exact (nv_i64 k1))
          obtain ⟨n, hn0⟩ : ∃ n : Int, ((c1.flush.dec.length : Nat) : Int) = n := ⟨_, rfl⟩
          have hn := hide_ hn0
          obtain ⟨vv, hv0⟩ : ∃ v : Int, c1.flush.view = v := ⟨_, rfl⟩
          have hv := hide_ hv0
          have tfm : (a.m.msg.fm != g.me) = false := by simp [hfm]
          have tix : decide (a.m.msg.ix > n) = false := decide_eq_false (show ¬ n < a.m.ix from Int.not_lt.2 (by rw [← hn0]; exact k4))
          have tt1 : decide (a.to < -1) = false := decide_eq_false (by omega)
          have tt2 : decide (a.to ≥ ((g.st.length : Nat) : Int)) = false := decide_eq_false (by rw [ht1.out] at k3; omega)
          have hHr := hH.out.ext hxt
          have hX := hX0.out.trans hHr.x
          have f3 := f30.out.ext hHr.x
          by_cases q0 : a.to = -1
          · have tq : (a.to == -1) = true := by simp [q0]
            have ti0 : decide (a.m.msg.ix < i0) = false := decide_eq_false (show ¬ a.m.ix < i0 from Int.not_lt.2 (by rw [← hi0.out]; exact k5 q0))
            clear q0
            by_cases e1 : a.m.ix = n
            rotate_left
            · have te1 : (a.m.msg.ix == n) = false := by show (a.m.ix == n) = false; simp [e1]
              clear hlt ha0 k1 k2 k3 k4 k5 k6 hst7 hfm hn0 hv0 hgj e1
              go_wp2_with ((first | (refine z1hz ?_; intro pa hrow; replace hrow := hide_ hrow) | refine z1iz ?_ | (refine z1az ?_; intro g14 wa hga hxa fa; replace hga := hide_ hga; replace hxa := hide_ hxa) | (refine z14z ?_; intro wb hmb f14; have hx := hmb.after hxa.out (fun j e => e ▸ hga.out); replace hHr := hHr.ext hx; replace hX := hX.trans hx; replace f3 := f3.ext hx; replace hxt := hxt.trans hx; clear hx hmb fa hga hxa) | refine zkz ?_ | (refine z1bz ?_; intro g15 wa2 hgb hxb fa2; replace hgb := hide_ hgb; replace hxb := hide_ hxb; have hne := hide_ (show g14 ≠ g15 from fun e => by have h1 := f14.lt; have h2 := hgb.out; omega); replace f14 := f14.ext hxb.out) | (refine z10z ?_; intro wb2 hmb2 f15; replace f14 := f14.mod hmb2 (fun e => hne.out e); have hx := hmb2.after hxb.out (fun j e => e ▸ hgb.out); replace hHr := hHr.ext hx; replace hX := hX.trans hx; replace f3 := f3.ext hx; replace hxt := hxt.trans hx; clear hx hmb2 fa2 hgb hxb hne) | fail) <;> (try refine z1z ?_))
              refine ztz ?_; intro wd hxd; have F3 := f3.ext hxd; have F14 := f14.ext hxd; have F15 := f15.ext hxd; have HH := hHr.ext hxd; have UG := (hu.out.ext hX).ext hxd
              refine z4z ?_
              intro wN hxN
              refine z15z ?_
              replace hxt := hxt.trans (hxd.trans hxN); replace hX := hX.trans (hxd.trans hxN); replace f3 := f3.ext (hxd.trans hxN); replace f14 := f14.ext (hxd.trans hxN); replace f15 := f15.ext (hxd.trans hxN); replace hHr := hHr.ext (hxd.trans hxN); clear hxd hxN F3 F14 F15 HH UG
              go_wp2
              refine ztz ?_; intro wd hxd; have F15 := f15.ext hxd; have HH := hHr.ext hxd
              refine zpz ?_
              intro wN hxN
              refine z15z ?_
              replace hxt := hxt.trans (hxd.trans hxN); clear hxd hxN F15 HH
              go_wp2
              go_roundw
              case rel => exact z31z
              case measure => have := hjl.out; simp [RowKit.intOf]; omega
            have te1 : (a.m.msg.ix == n) = true := by show (a.m.ix == n) = true; simp [e1]
            by_cases e2 : a.m.kd = 6
            · have te2 : (a.m.msg.kd != 6) = false := by show (a.m.kd != 6) = false; simp [e2]
              clear hlt ha0 k1 k2 k3 k4 k5 k6 hst7 hfm hn0 hv0 hgj e1 e2
              go_wp2_with ((first | (refine z1hz ?_; intro pa hrow; replace hrow := hide_ hrow) | refine z1iz ?_ | (refine z1az ?_; intro g14 wa hga hxa fa; replace hga := hide_ hga; replace hxa := hide_ hxa) | (refine z14z ?_; intro wb hmb f14; have hx := hmb.after hxa.out (fun j e => e ▸ hga.out); replace hHr := hHr.ext hx; replace hX := hX.trans hx; replace f3 := f3.ext hx; replace hxt := hxt.trans hx; clear hx hmb fa hga hxa) | refine zkz ?_ | (refine z1bz ?_; intro g15 wa2 hgb hxb fa2; replace hgb := hide_ hgb; replace hxb := hide_ hxb; have hne := hide_ (show g14 ≠ g15 from fun e => by have h1 := f14.lt; have h2 := hgb.out; omega); replace f14 := f14.ext hxb.out) | (refine z10z ?_; intro wb2 hmb2 f15; replace f14 := f14.mod hmb2 (fun e => hne.out e); have hx := hmb2.after hxb.out (fun j e => e ▸ hgb.out); replace hHr := hHr.ext hx; replace hX := hX.trans hx; replace f3 := f3.ext hx; replace hxt := hxt.trans hx; clear hx hmb2 fa2 hgb hxb hne) | fail) <;> (try refine z1z ?_))
              refine ztz ?_; intro wd hxd; have F3 := f3.ext hxd; have F14 := f14.ext hxd; have F15 := f15.ext hxd; have HH := hHr.ext hxd; have UG := (hu.out.ext hX).ext hxd
              refine z4z ?_
              intro wN hxN
              refine z15z ?_
              replace hxt := hxt.trans (hxd.trans hxN); replace hX := hX.trans (hxd.trans hxN); replace f3 := f3.ext (hxd.trans hxN); replace f14 := f14.ext (hxd.trans hxN); replace f15 := f15.ext (hxd.trans hxN); replace hHr := hHr.ext (hxd.trans hxN); clear hxd hxN F3 F14 F15 HH UG
              go_wp2
              refine ztz ?_; intro wd hxd; have F15 := f15.ext hxd; have HH := hHr.ext hxd
              refine zbz ?_
              intro wN hxN
              refine z15z ?_
              replace hxt := hxt.trans (hxd.trans hxN); clear hxd hxN F15 HH
              go_wp2
              go_roundw
              case rel => exact z31z
              case measure => have := hjl.out; simp [RowKit.intOf]; omega
            have te2 : (a.m.msg.kd != 6) = true := by show (a.m.kd != 6) = true; simp [e2]
            have te3 : decide (a.m.msg.vw > vv) = false := decide_eq_false (show ¬ vv < a.m.vw from Int.not_lt.2 (by rw [← hv0]; exact k6 (by rw [e1, ← hn0]; rfl) e2))
            clear hlt ha0 k1 k2 k3 k4 k5 k6 hst7 hfm hn0 hv0 hgj e1 e2
            go_wp2_with ((first | (refine z1hz ?_; intro pa hrow; replace hrow := hide_ hrow) | refine z1iz ?_ | (refine z1az ?_; intro g14 wa hga hxa fa; replace hga := hide_ hga; replace hxa := hide_ hxa) | (refine z14z ?_; intro wb hmb f14; have hx := hmb.after hxa.out (fun j e => e ▸ hga.out); replace hHr := hHr.ext hx; replace hX := hX.trans hx; replace f3 := f3.ext hx; replace hxt := hxt.trans hx; clear hx hmb fa hga hxa) | refine zkz ?_ | (refine z1bz ?_; intro g15 wa2 hgb hxb fa2; replace hgb := hide_ hgb; replace hxb := hide_ hxb; have hne := hide_ (show g14 ≠ g15 from fun e => by have h1 := f14.lt; have h2 := hgb.out; omega); replace f14 := f14.ext hxb.out) | (refine z10z ?_; intro wb2 hmb2 f15; replace f14 := f14.mod hmb2 (fun e => hne.out e); have hx := hmb2.after hxb.out (fun j e => e ▸ hgb.out); replace hHr := hHr.ext hx; replace hX := hX.trans hx; replace f3 := f3.ext hx; replace hxt := hxt.trans hx; clear hx hmb2 fa2 hgb hxb hne) | fail) <;> (try refine z1z ?_))
            refine ztz ?_; intro wd hxd; have F3 := f3.ext hxd; have F14 := f14.ext hxd; have F15 := f15.ext hxd; have HH := hHr.ext hxd; have UG := (hu.out.ext hX).ext hxd
            refine z4z ?_
            intro wN hxN
            refine z15z ?_
            replace hxt := hxt.trans (hxd.trans hxN); replace hX := hX.trans (hxd.trans hxN); replace f3 := f3.ext (hxd.trans hxN); replace f14 := f14.ext (hxd.trans hxN); replace f15 := f15.ext (hxd.trans hxN); replace hHr := hHr.ext (hxd.trans hxN); clear hxd hxN F3 F14 F15 HH UG
            go_wp2
            refine ztz ?_; intro wd hxd; have F15 := f15.ext hxd; have HH := hHr.ext hxd
            refine z2z ?_
            intro wN hxN
            refine z15z ?_
            replace hxt := hxt.trans (hxd.trans hxN); clear hxd hxN F15 HH
            go_wp2
            go_roundw
            case rel => exact z31z
            case measure => have := hjl.out; simp [RowKit.intOf]; omega
          have tq : (a.to == -1) = false := by simp [q0]
          clear q0
          by_cases e1 : a.m.ix = n
          rotate_left
          · have te1 : (a.m.msg.ix == n) = false := by show (a.m.ix == n) = false; simp [e1]
            clear hlt ha0 k1 k2 k3 k4 k5 k6 hst7 hfm hn0 hv0 hgj e1
            go_wp2_with ((first | (refine z1hz ?_; intro pa hrow; replace hrow := hide_ hrow) | refine z1iz ?_ | (refine z1az ?_; intro g14 wa hga hxa fa; replace hga := hide_ hga; replace hxa := hide_ hxa) | (refine z14z ?_; intro wb hmb f14; have hx := hmb.after hxa.out (fun j e => e ▸ hga.out); replace hHr := hHr.ext hx; replace hX := hX.trans hx; replace f3 := f3.ext hx; replace hxt := hxt.trans hx; clear hx hmb fa hga hxa) | refine zkz ?_ | (refine z1bz ?_; intro g15 wa2 hgb hxb fa2; replace hgb := hide_ hgb; replace hxb := hide_ hxb; have hne := hide_ (show g14 ≠ g15 from fun e => by have h1 := f14.lt; have h2 := hgb.out; omega); replace f14 := f14.ext hxb.out) | (refine z10z ?_; intro wb2 hmb2 f15; replace f14 := f14.mod hmb2 (fun e => hne.out e); have hx := hmb2.after hxb.out (fun j e => e ▸ hgb.out); replace hHr := hHr.ext hx; replace hX := hX.trans hx; replace f3 := f3.ext hx; replace hxt := hxt.trans hx; clear hx hmb2 fa2 hgb hxb hne) | fail) <;> (try refine z1z ?_))
            refine ztz ?_; intro wd hxd; have F3 := f3.ext hxd; have F14 := f14.ext hxd; have F15 := f15.ext hxd; have HH := hHr.ext hxd; have UG := (hu.out.ext hX).ext hxd
            refine z11z ?_
            intro wN hxN
            refine z15z ?_
            replace hxt := hxt.trans (hxd.trans hxN); replace hX := hX.trans (hxd.trans hxN); replace f3 := f3.ext (hxd.trans hxN); replace f14 := f14.ext (hxd.trans hxN); replace f15 := f15.ext (hxd.trans hxN); replace hHr := hHr.ext (hxd.trans hxN); clear hxd hxN F3 F14 F15 HH UG
            go_wp2
            refine ztz ?_; intro wd hxd; have F15 := f15.ext hxd; have HH := hHr.ext hxd
            refine zpz ?_
            intro wN hxN
            refine z15z ?_
            replace hxt := hxt.trans (hxd.trans hxN); clear hxd hxN F15 HH
            go_wp2
            go_roundw
            case rel => exact z31z
            case measure => have := hjl.out; simp [RowKit.intOf]; omega
          have te1 : (a.m.msg.ix == n) = true := by show (a.m.ix == n) = true; simp [e1]
          by_cases e2 : a.m.kd = 6
          · have te2 : (a.m.msg.kd != 6) = false := by show (a.m.kd != 6) = false; simp [e2]
            clear hlt ha0 k1 k2 k3 k4 k5 k6 hst7 hfm hn0 hv0 hgj e1 e2
            go_wp2_with ((first | (refine z1hz ?_; intro pa hrow; replace hrow := hide_ hrow) | refine z1iz ?_ | (refine z1az ?_; intro g14 wa hga hxa fa; replace hga := hide_ hga; replace hxa := hide_ hxa) | (refine z14z ?_; intro wb hmb f14; have hx := hmb.after hxa.out (fun j e => e ▸ hga.out); replace hHr := hHr.ext hx; replace hX := hX.trans hx; replace f3 := f3.ext hx; replace hxt := hxt.trans hx; clear hx hmb fa hga hxa) | refine zkz ?_ | (refine z1bz ?_; intro g15 wa2 hgb hxb fa2; replace hgb := hide_ hgb; replace hxb := hide_ hxb; have hne := hide_ (show g14 ≠ g15 from fun e => by have h1 := f14.lt; have h2 := hgb.out; omega); replace f14 := f14.ext hxb.out) | (refine z10z ?_; intro wb2 hmb2 f15; replace f14 := f14.mod hmb2 (fun e => hne.out e); have hx := hmb2.after hxb.out (fun j e => e ▸ hgb.out); replace hHr := hHr.ext hx; replace hX := hX.trans hx; replace f3 := f3.ext hx; replace hxt := hxt.trans hx; clear hx hmb2 fa2 hgb hxb hne) | fail) <;> (try refine z1z ?_))
            refine ztz ?_; intro wd hxd; have F3 := f3.ext hxd; have F14 := f14.ext hxd; have F15 := f15.ext hxd; have HH := hHr.ext hxd; have UG := (hu.out.ext hX).ext hxd
            refine z11z ?_
            intro wN hxN
            refine z15z ?_
            replace hxt := hxt.trans (hxd.trans hxN); replace hX := hX.trans (hxd.trans hxN); replace f3 := f3.ext (hxd.trans hxN); replace f14 := f14.ext (hxd.trans hxN); replace f15 := f15.ext (hxd.trans hxN); replace hHr := hHr.ext (hxd.trans hxN); clear hxd hxN F3 F14 F15 HH UG
            go_wp2
            refine ztz ?_; intro wd hxd; have F15 := f15.ext hxd; have HH := hHr.ext hxd
            refine zbz ?_
            intro wN hxN
            refine z15z ?_
            replace hxt := hxt.trans (hxd.trans hxN); clear hxd hxN F15 HH
            go_wp2
            go_roundw
            case rel => exact z31z
            case measure => have := hjl.out; simp [RowKit.intOf]; omega
          have te2 : (a.m.msg.kd != 6) = true := by show (a.m.kd != 6) = true; simp [e2]
          have te3 : decide (a.m.msg.vw > vv) = false := decide_eq_false (show ¬ vv < a.m.vw from Int.not_lt.2 (by rw [← hv0]; exact k6 (by rw [e1, ← hn0]; rfl) e2))
          clear hlt ha0 k1 k2 k3 k4 k5 k6 hst7 hfm hn0 hv0 hgj e1 e2
          go_wp2_with ((first | (refine z1hz ?_; intro pa hrow; replace hrow := hide_ hrow) | refine z1iz ?_ | (refine z1az ?_; intro g14 wa hga hxa fa; replace hga := hide_ hga; replace hxa := hide_ hxa) | (refine z14z ?_; intro wb hmb f14; have hx := hmb.after hxa.out (fun j e => e ▸ hga.out); replace hHr := hHr.ext hx; replace hX := hX.trans hx; replace f3 := f3.ext hx; replace hxt := hxt.trans hx; clear hx hmb fa hga hxa) | refine zkz ?_ | (refine z1bz ?_; intro g15 wa2 hgb hxb fa2; replace hgb := hide_ hgb; replace hxb := hide_ hxb; have hne := hide_ (show g14 ≠ g15 from fun e => by have h1 := f14.lt; have h2 := hgb.out; omega); replace f14 := f14.ext hxb.out) | (refine z10z ?_; intro wb2 hmb2 f15; replace f14 := f14.mod hmb2 (fun e => hne.out e); have hx := hmb2.after hxb.out (fun j e => e ▸ hgb.out); replace hHr := hHr.ext hx; replace hX := hX.trans hx; replace f3 := f3.ext hx; replace hxt := hxt.trans hx; clear hx hmb2 fa2 hgb hxb hne) | fail) <;> (try refine z1z ?_))
          refine ztz ?_; intro wd hxd; have F3 := f3.ext hxd; have F14 := f14.ext hxd; have F15 := f15.ext hxd; have HH := hHr.ext hxd; have UG := (hu.out.ext hX).ext hxd
          refine z11z ?_
          intro wN hxN
          refine z15z ?_
          replace hxt := hxt.trans (hxd.trans hxN); replace hX := hX.trans (hxd.trans hxN); replace f3 := f3.ext (hxd.trans hxN); replace f14 := f14.ext (hxd.trans hxN); replace f15 := f15.ext (hxd.trans hxN); replace hHr := hHr.ext (hxd.trans hxN); clear hxd hxN F3 F14 F15 HH UG
          go_wp2
          refine ztz ?_; intro wd hxd; have F15 := f15.ext hxd; have HH := hHr.ext hxd
          refine z2z ?_
          intro wN hxN
          refine z15z ?_
          replace hxt := hxt.trans (hxd.trans hxN); clear hxd hxN F15 HH
          go_wp2
          go_roundw
          case rel => exact z31z
          case measure => have := hjl.out; simp [RowKit.intOf]; omega
      · have hkl0 := hide_ (show 0 < kl.length by omega)
        obtain ⟨x0, hx00⟩ : ∃ x, kl[0]'(hkl0.out) = x := ⟨_, rfl⟩
        have hkx := hide_ (show kl[0]'(hkl0.out) = x0 from hx00)
        have tk : decide (kn > 0) = true := decide_eq_true (by have := hkl0.out; omega)
        have tk' : decide (0 < kn) = true := decide_eq_true (by have := hkl0.out; omega)
        have htip := hide_ (hnv.out x0 (by rw [← hx00]; exact List.getElem_mem _))
        clear hge hlt hd0 q1 hsp1 hout1 ht1 hme1 hi00 hke hx00 hkn0
        go_upto_region 20 with ((first | go_big_skip | (refine z2xz ?_; intro pa ua hrow hua hraw; replace hrow := hide_ hrow; replace hua := hide_ hua; have hav := hide_ hraw.vl; have hap := hide_ hraw.bk.parent; have haf := hide_ hraw.few; clear hraw) | refine z38z ?_ | (refine z41z ?_; intro ga wa hga hxa fa) | (refine z2lz ?_; intro wb hmb fb; have hx := hmb.after hxa (fun j e => e ▸ hga); replace hH := hH.ext hx; replace hX := hX.trans hx; clear hx hxa hmb fa hga) | refine zsz ?_ | (go_at_call 21; refine (index_held hH).mono ?_; rintro e wi ⟨rfl, hx⟩; rw [hi0.out]; replace hH := hH.ext hx; replace fb := fb.ext hx; replace hX := hX.trans hx; clear hx) | (refine z3xz ?_; intro ov0 wn0 B hB1 hB2 hx hn1; have hr0 := hide_ (RowN.acts (l := []) hn1); replace hH := hH.ext hx; replace fb := fb.ext hx; replace hX := hX.trans hx; clear hx hB1 hB2 hn1) | ((with_reducible refine at_bi ?_); refine i_len _ rfl rfl rfl (kv1.out.ext hX) ?_; rw [hkn.out]) | ((with_reducible refine at_idx ?_); refine i_idx _ _ 0 rfl rfl rfl (kv1.out.ext hX) rfl hkl0.out ?_; intro ad had; rw [hkx.out] at had) | (refine z4lz ?_; intro v3 wc hx3 ho3; have o3 : OwnI _ wc v3 [] := ho3; clear ho3) | (refine z57z ?_; intro vm wd ho4 hb4 hg4 hl4; have hx4 := hx3.trans' hb4; rw [List.nil_append] at ho4; clear hb4 hg4 hl4 o3 hx3) | (go_at_call 13; refine (tick_held (tip := x0) hH hx4 ho4 hsp.out hout.out htip.out).mono ?_; rintro e wt ⟨ov, rfl, hH2, hr1⟩) | fail) <;> (try refine z1z ?_))
        obtain ⟨c1, hc1⟩ : ∃ x, c.tick kl x0 = x := ⟨_, rfl⟩
        have hs1 := spk_tick hsp.out NV.zero htip.out kl
        have hk1 := like_tick c kl x0
        rw [hc1] at hH2 hr1 hs1 hk1
        have hr := hide_ hr1
        have hsp1 := hide_ hs1
        have ht1 := hide_ (hk1.2.1.trans ht.out)
        have hme1 := hide_ (hk1.1.trans hme.out)
        replace hH := hide_ hH2
        clear hH2 hr1 hs1 hk1 hc1
        go_wp2_with ((first | refine z5az ?_ | fail) <;> (try refine z1z ?_))
        go_loopw [82] (fun i wr2 => ∃ j : Nat, i = .int .i64 j ∧ j ≤ c1.out.length ∧ Ext wt wr2) (fun i _ => c1.out.length - (RowKit.intOf i).toNat)
        case atStart => exact z69z
        case round =>
          obtain ⟨j, rfl, hj, hxt⟩ := hrel
          by_cases hgj : c1.out.length ≤ j
          · obtain rfl : j = c1.out.length := by omega
            have t3 : decide ((c1.out.length : Int) < (c1.out.length : Int)) = false := by simp
            have t3' : decide (c1.out.length < c1.out.length) = false := by simp
            clear hgj
            go_wp2
            go_roundw
            case rel => exact z55z
            case measure => have := hkl.out; simp [RowKit.intOf]; omega
          have hlt : j < c1.out.length := by omega
          have t3 : decide ((j : Int) < (c1.out.length : Int)) = true := by simp; omega
          have t3' : decide (j < c1.out.length) = true := by simpa using hlt
          have hjl := hide_ hlt
          have hjb : j < 9223372036854775807 := by have := hr.out.len_le; unfold maxLen at this; omega
          obtain ⟨a, ha0⟩ : ∃ a, c1.out[j]? = some a := ⟨_, List.getElem?_eq_getElem hlt⟩
          have ha := hide_ ha0
          obtain ⟨k1, k2, k3, k4, k5, k6⟩ := hsp1.out.2.2 a (List.mem_of_getElem? ha0)
          have hst7 := hg.out.st.2.1
          have hfm : a.m.msg.fm = g.me := by show a.m.fm = g.me; rw [k2, hme1.out]; have := hg.out.me; omega
          have hmr := hide_ (decide_eq_true (k1.right ⟨by rw [k2]; omega, by rw [k2]; have := hsp1.out.1.lt; rw [ht1.out] at this; omega⟩))
          have hvl := hide_ (show I64 a.m.msg.vl from by
            have := (k1.right ⟨by rw [k2]; omega, by rw [k2]; have := hsp1.out.1.lt; rw [ht1.out] at this; omega⟩ : a.m.msg.Right)
            exact (nv_i64 k1))
          obtain ⟨n, hn0⟩ : ∃ n : Int, ((c1.flush.dec.length : Nat) : Int) = n := ⟨_, rfl⟩
          have hn := hide_ hn0
          obtain ⟨vv, hv0⟩ : ∃ v : Int, c1.flush.view = v := ⟨_, rfl⟩
          have hv := hide_ hv0
          have tfm : (a.m.msg.fm != g.me) = false := by simp [hfm]
          have tix : decide (a.m.msg.ix > n) = false := decide_eq_false (show ¬ n < a.m.ix from Int.not_lt.2 (by rw [← hn0]; exact k4))
          have tt1 : decide (a.to < -1) = false := decide_eq_false (by omega)
          have tt2 : decide (a.to ≥ ((g.st.length : Nat) : Int)) = false := decide_eq_false (by rw [ht1.out] at k3; omega)
          have hHr := hH.out.ext hxt
          have hX := hX0.out.trans hHr.x
          have f3 := f30.out.ext hHr.x
          by_cases q0 : a.to = -1
          · have tq : (a.to == -1) = true := by simp [q0]
            have ti0 : decide (a.m.msg.ix < i0) = false := decide_eq_false (show ¬ a.m.ix < i0 from Int.not_lt.2 (by rw [← hi0.out]; exact k5 q0))
            clear q0
            by_cases e1 : a.m.ix = n
            rotate_left
            · have te1 : (a.m.msg.ix == n) = false := by show (a.m.ix == n) = false; simp [e1]
              clear hlt ha0 k1 k2 k3 k4 k5 k6 hst7 hfm hn0 hv0 hgj e1
              go_wp2_with ((first | (refine z1hz ?_; intro pa hrow; replace hrow := hide_ hrow) | refine z1iz ?_ | (refine z1az ?_; intro g14 wa hga hxa fa; replace hga := hide_ hga; replace hxa := hide_ hxa) | (refine z14z ?_; intro wb hmb f14; have hx := hmb.after hxa.out (fun j e => e ▸ hga.out); replace hHr := hHr.ext hx; replace hX := hX.trans hx; replace f3 := f3.ext hx; replace hxt := hxt.trans hx; clear hx hmb fa hga hxa) | refine zkz ?_ | (refine z1bz ?_; intro g15 wa2 hgb hxb fa2; replace hgb := hide_ hgb; replace hxb := hide_ hxb; have hne := hide_ (show g14 ≠ g15 from fun e => by have h1 := f14.lt; have h2 := hgb.out; omega); replace f14 := f14.ext hxb.out) | (refine z10z ?_; intro wb2 hmb2 f15; replace f14 := f14.mod hmb2 (fun e => hne.out e); have hx := hmb2.after hxb.out (fun j e => e ▸ hgb.out); replace hHr := hHr.ext hx; replace hX := hX.trans hx; replace f3 := f3.ext hx; replace hxt := hxt.trans hx; clear hx hmb2 fa2 hgb hxb hne) | fail) <;> (try refine z1z ?_))
              refine ztz ?_; intro wd hxd; have F3 := f3.ext hxd; have F14 := f14.ext hxd; have F15 := f15.ext hxd; have HH := hHr.ext hxd; have UG := (hu.out.ext hX).ext hxd
              refine z4z ?_
              intro wN hxN
              refine z15z ?_
              replace hxt := hxt.trans (hxd.trans hxN); replace hX := hX.trans (hxd.trans hxN); replace f3 := f3.ext (hxd.trans hxN); replace f14 := f14.ext (hxd.trans hxN); replace f15 := f15.ext (hxd.trans hxN); replace hHr := hHr.ext (hxd.trans hxN); clear hxd hxN F3 F14 F15 HH UG
              go_wp2
              refine ztz ?_; intro wd hxd; have F15 := f15.ext hxd; have HH := hHr.ext hxd
              refine zpz ?_
              intro wN hxN
              refine z15z ?_
              replace hxt := hxt.trans (hxd.trans hxN); clear hxd hxN F15 HH
              go_wp2
              go_roundw
              case rel => exact z31z
              case measure => have := hjl.out; simp [RowKit.intOf]; omega
            have te1 : (a.m.msg.ix == n) = true := by show (a.m.ix == n) = true; simp [e1]
            by_cases e2 : a.m.kd = 6
            · have te2 : (a.m.msg.kd != 6) = false := by show (a.m.kd != 6) = false; simp [e2]
              clear hlt ha0 k1 k2 k3 k4 k5 k6 hst7 hfm hn0 hv0 hgj e1 e2
              go_wp2_with ((first | (refine z1hz ?_; intro pa hrow; replace hrow := hide_ hrow) | refine z1iz ?_ | (refine z1az ?_; intro g14 wa hga hxa fa; replace hga := hide_ hga; replace hxa := hide_ hxa) | (refine z14z ?_; intro wb hmb f14; have hx := hmb.after hxa.out (fun j e => e ▸ hga.out); replace hHr := hHr.ext hx; replace hX := hX.trans hx; replace f3 := f3.ext hx; replace hxt := hxt.trans hx; clear hx hmb fa hga hxa) | refine zkz ?_ | (refine z1bz ?_; intro g15 wa2 hgb hxb fa2; replace hgb := hide_ hgb; replace hxb := hide_ hxb; have hne := hide_ (show g14 ≠ g15 from fun e => by have h1 := f14.lt; have h2 := hgb.out; omega); replace f14 := f14.ext hxb.out) | (refine z10z ?_; intro wb2 hmb2 f15; replace f14 := f14.mod hmb2 (fun e => hne.out e); have hx := hmb2.after hxb.out (fun j e => e ▸ hgb.out); replace hHr := hHr.ext hx; replace hX := hX.trans hx; replace f3 := f3.ext hx; replace hxt := hxt.trans hx; clear hx hmb2 fa2 hgb hxb hne) | fail) <;> (try refine z1z ?_))
              refine ztz ?_; intro wd hxd; have F3 := f3.ext hxd; have F14 := f14.ext hxd; have F15 := f15.ext hxd; have HH := hHr.ext hxd; have UG := (hu.out.ext hX).ext hxd
              refine z4z ?_
              intro wN hxN
              refine z15z ?_
              replace hxt := hxt.trans (hxd.trans hxN); replace hX := hX.trans (hxd.trans hxN); replace f3 := f3.ext (hxd.trans hxN); replace f14 := f14.ext (hxd.trans hxN); replace f15 := f15.ext (hxd.trans hxN); replace hHr := hHr.ext (hxd.trans hxN); clear hxd hxN F3 F14 F15 HH UG
              go_wp2
              refine ztz ?_; intro wd hxd; have F15 := f15.ext hxd; have HH := hHr.ext hxd
              refine zbz ?_
              intro wN hxN
              refine z15z ?_
              replace hxt := hxt.trans (hxd.trans hxN); clear hxd hxN F15 HH
              go_wp2
              go_roundw
              case rel => exact z31z
              case measure => have := hjl.out; simp [RowKit.intOf]; omega
            have te2 : (a.m.msg.kd != 6) = true := by show (a.m.kd != 6) = true; simp [e2]
            have te3 : decide (a.m.msg.vw > vv) = false := decide_eq_false (show ¬ vv < a.m.vw from Int.not_lt.2 (by rw [← hv0]; exact k6 (by rw [e1, ← hn0]; rfl) e2))
            clear hlt ha0 k1 k2 k3 k4 k5 k6 hst7 hfm hn0 hv0 hgj e1 e2
            go_wp2_with ((first | (refine z1hz ?_; intro pa hrow; replace hrow := hide_ hrow) | refine z1iz ?_ | (refine z1az ?_; intro g14 wa hga hxa fa; replace hga := hide_ hga; replace hxa := hide_ hxa) | (refine z14z ?_; intro wb hmb f14; have hx := hmb.after hxa.out (fun j e => e ▸ hga.out); replace hHr := hHr.ext hx; replace hX := hX.trans hx; replace f3 := f3.ext hx; replace hxt := hxt.trans hx; clear hx hmb fa hga hxa) | refine zkz ?_ | (refine z1bz ?_; intro g15 wa2 hgb hxb fa2; replace hgb := hide_ hgb; replace hxb := hide_ hxb; have hne := hide_ (show g14 ≠ g15 from fun e => by have h1 := f14.lt; have h2 := hgb.out; omega); replace f14 := f14.ext hxb.out) | (refine z10z ?_; intro wb2 hmb2 f15; replace f14 := f14.mod hmb2 (fun e => hne.out e); have hx := hmb2.after hxb.out (fun j e => e ▸ hgb.out); replace hHr := hHr.ext hx; replace hX := hX.trans hx; replace f3 := f3.ext hx; replace hxt := hxt.trans hx; clear hx hmb2 fa2 hgb hxb hne) | fail) <;> (try refine z1z ?_))
            refine ztz ?_; intro wd hxd; have F3 := f3.ext hxd; have F14 := f14.ext hxd; have F15 := f15.ext hxd; have HH := hHr.ext hxd; have UG := (hu.out.ext hX).ext hxd
            refine z4z ?_
            intro wN hxN
            refine z15z ?_
            replace hxt := hxt.trans (hxd.trans hxN); replace hX := hX.trans (hxd.trans hxN); replace f3 := f3.ext (hxd.trans hxN); replace f14 := f14.ext (hxd.trans hxN); replace f15 := f15.ext (hxd.trans hxN); replace hHr := hHr.ext (hxd.trans hxN); clear hxd hxN F3 F14 F15 HH UG
            go_wp2
            refine ztz ?_; intro wd hxd; have F15 := f15.ext hxd; have HH := hHr.ext hxd
            refine z2z ?_
            intro wN hxN
            refine z15z ?_
            replace hxt := hxt.trans (hxd.trans hxN); clear hxd hxN F15 HH
            go_wp2
            go_roundw
            case rel => exact z31z
            case measure => have := hjl.out; simp [RowKit.intOf]; omega
          have tq : (a.to == -1) = false := by simp [q0]
          clear q0
          by_cases e1 : a.m.ix = n
          rotate_left
          · have te1 : (a.m.msg.ix == n) = false := by show (a.m.ix == n) = false; simp [e1]
            clear hlt ha0 k1 k2 k3 k4 k5 k6 hst7 hfm hn0 hv0 hgj e1
            go_wp2_with ((first | (refine z1hz ?_; intro pa hrow; replace hrow := hide_ hrow) | refine z1iz ?_ | (refine z1az ?_; intro g14 wa hga hxa fa; replace hga := hide_ hga; replace hxa := hide_ hxa) | (refine z14z ?_; intro wb hmb f14; have hx := hmb.after hxa.out (fun j e => e ▸ hga.out); replace hHr := hHr.ext hx; replace hX := hX.trans hx; replace f3 := f3.ext hx; replace hxt := hxt.trans hx; clear hx hmb fa hga hxa) | refine zkz ?_ | (refine z1bz ?_; intro g15 wa2 hgb hxb fa2; replace hgb := hide_ hgb; replace hxb := hide_ hxb; have hne := hide_ (show g14 ≠ g15 from fun e => by have h1 := f14.lt; have h2 := hgb.out; omega); replace f14 := f14.ext hxb.out) | (refine z10z ?_; intro wb2 hmb2 f15; replace f14 := f14.mod hmb2 (fun e => hne.out e); have hx := hmb2.after hxb.out (fun j e => e ▸ hgb.out); replace hHr := hHr.ext hx; replace hX := hX.trans hx; replace f3 := f3.ext hx; replace hxt := hxt.trans hx; clear hx hmb2 fa2 hgb hxb hne) | fail) <;> (try refine z1z ?_))
            refine ztz ?_; intro wd hxd; have F3 := f3.ext hxd; have F14 := f14.ext hxd; have F15 := f15.ext hxd; have HH := hHr.ext hxd; have UG := (hu.out.ext hX).ext hxd
            refine z11z ?_
            intro wN hxN
            refine z15z ?_
            replace hxt := hxt.trans (hxd.trans hxN); replace hX := hX.trans (hxd.trans hxN); replace f3 := f3.ext (hxd.trans hxN); replace f14 := f14.ext (hxd.trans hxN); replace f15 := f15.ext (hxd.trans hxN); replace hHr := hHr.ext (hxd.trans hxN); clear hxd hxN F3 F14 F15 HH UG
            go_wp2
            refine ztz ?_; intro wd hxd; have F15 := f15.ext hxd; have HH := hHr.ext hxd
            refine zpz ?_
            intro wN hxN
            refine z15z ?_
            replace hxt := hxt.trans (hxd.trans hxN); clear hxd hxN F15 HH
            go_wp2
            go_roundw
            case rel => exact z31z
            case measure => have := hjl.out; simp [RowKit.intOf]; omega
          have te1 : (a.m.msg.ix == n) = true := by show (a.m.ix == n) = true; simp [e1]
          by_cases e2 : a.m.kd = 6
          · have te2 : (a.m.msg.kd != 6) = false := by show (a.m.kd != 6) = false; simp [e2]
            clear hlt ha0 k1 k2 k3 k4 k5 k6 hst7 hfm hn0 hv0 hgj e1 e2
            go_wp2_with ((first | (refine z1hz ?_; intro pa hrow; replace hrow := hide_ hrow) | refine z1iz ?_ | (refine z1az ?_; intro g14 wa hga hxa fa; replace hga := hide_ hga; replace hxa := hide_ hxa) | (refine z14z ?_; intro wb hmb f14; have hx := hmb.after hxa.out (fun j e => e ▸ hga.out); replace hHr := hHr.ext hx; replace hX := hX.trans hx; replace f3 := f3.ext hx; replace hxt := hxt.trans hx; clear hx hmb fa hga hxa) | refine zkz ?_ | (refine z1bz ?_; intro g15 wa2 hgb hxb fa2; replace hgb := hide_ hgb; replace hxb := hide_ hxb; have hne := hide_ (show g14 ≠ g15 from fun e => by have h1 := f14.lt; have h2 := hgb.out; omega); replace f14 := f14.ext hxb.out) | (refine z10z ?_; intro wb2 hmb2 f15; replace f14 := f14.mod hmb2 (fun e => hne.out e); have hx := hmb2.after hxb.out (fun j e => e ▸ hgb.out); replace hHr := hHr.ext hx; replace hX := hX.trans hx; replace f3 := f3.ext hx; replace hxt := hxt.trans hx; clear hx hmb2 fa2 hgb hxb hne) | fail) <;> (try refine z1z ?_))
            refine ztz ?_; intro wd hxd; have F3 := f3.ext hxd; have F14 := f14.ext hxd; have F15 := f15.ext hxd; have HH := hHr.ext hxd; have UG := (hu.out.ext hX).ext hxd
            refine z11z ?_
            intro wN hxN
            refine z15z ?_
            replace hxt := hxt.trans (hxd.trans hxN); replace hX := hX.trans (hxd.trans hxN); replace f3 := f3.ext (hxd.trans hxN); replace f14 := f14.ext (hxd.trans hxN); replace f15 := f15.ext (hxd.trans hxN); replace hHr := hHr.ext (hxd.trans hxN); clear hxd hxN F3 F14 F15 HH UG
            go_wp2
            refine ztz ?_; intro wd hxd; have F15 := f15.ext hxd; have HH := hHr.ext hxd
            refine zbz ?_
            intro wN hxN
            refine z15z ?_
            replace hxt := hxt.trans (hxd.trans hxN); clear hxd hxN F15 HH
            go_wp2
            go_roundw
            case rel => exact z31z
            case measure => have := hjl.out; simp [RowKit.intOf]; omega
          have te2 : (a.m.msg.kd != 6) = true := by show (a.m.kd != 6) = true; simp [e2]
          have te3 : decide (a.m.msg.vw > vv) = false := decide_eq_false (show ¬ vv < a.m.vw from Int.not_lt.2 (by rw [← hv0]; exact k6 (by rw [e1, ← hn0]; rfl) e2))
          clear hlt ha0 k1 k2 k3 k4 k5 k6 hst7 hfm hn0 hv0 hgj e1 e2
          go_wp2_with ((first | (refine z1hz ?_; intro pa hrow; replace hrow := hide_ hrow) | refine z1iz ?_ | (refine z1az ?_; intro g14 wa hga hxa fa; replace hga := hide_ hga; replace hxa := hide_ hxa) | (refine z14z ?_; intro wb hmb f14; have hx := hmb.after hxa.out (fun j e => e ▸ hga.out); replace hHr := hHr.ext hx; replace hX := hX.trans hx; replace f3 := f3.ext hx; replace hxt := hxt.trans hx; clear hx hmb fa hga hxa) | refine zkz ?_ | (refine z1bz ?_; intro g15 wa2 hgb hxb fa2; replace hgb := hide_ hgb; replace hxb := hide_ hxb; have hne := hide_ (show g14 ≠ g15 from fun e => by have h1 := f14.lt; have h2 := hgb.out; omega); replace f14 := f14.ext hxb.out) | (refine z10z ?_; intro wb2 hmb2 f15; replace f14 := f14.mod hmb2 (fun e => hne.out e); have hx := hmb2.after hxb.out (fun j e => e ▸ hgb.out); replace hHr := hHr.ext hx; replace hX := hX.trans hx; replace f3 := f3.ext hx; replace hxt := hxt.trans hx; clear hx hmb2 fa2 hgb hxb hne) | fail) <;> (try refine z1z ?_))
          refine ztz ?_; intro wd hxd; have F3 := f3.ext hxd; have F14 := f14.ext hxd; have F15 := f15.ext hxd; have HH := hHr.ext hxd; have UG := (hu.out.ext hX).ext hxd
          refine z11z ?_
          intro wN hxN
          refine z15z ?_
          replace hxt := hxt.trans (hxd.trans hxN); replace hX := hX.trans (hxd.trans hxN); replace f3 := f3.ext (hxd.trans hxN); replace f14 := f14.ext (hxd.trans hxN); replace f15 := f15.ext (hxd.trans hxN); replace hHr := hHr.ext (hxd.trans hxN); clear hxd hxN F3 F14 F15 HH UG
          go_wp2
          refine ztz ?_; intro wd hxd; have F15 := f15.ext hxd; have HH := hHr.ext hxd
          refine z2z ?_
          intro wN hxN
          refine z15z ?_
          replace hxt := hxt.trans (hxd.trans hxN); clear hxd hxN F15 HH
          go_wp2
          go_roundw
          case rel => exact z31z
          case measure => have := hjl.out; simp [RowKit.intOf]; omega
    have t1 : (d.k == 1) = false := by simp [q1]
    by_cases q2 : d.m.Right
    · have har := hide_ (decide_eq_true q2)
      have hmRd := hide_ q2
      clear hge hlt hd0 q1 q2 hsp1 hout1 ht1 hme1 hi00
      go_upto_region 20 with ((first | go_big_skip | (refine z2xz ?_; intro pa ua hrow hua hraw; replace hrow := hide_ hrow; replace hua := hide_ hua; have hav := hide_ hraw.vl; have hap := hide_ hraw.bk.parent; have haf := hide_ hraw.few; clear hraw) | refine z38z ?_ | (refine z41z ?_; intro ga wa hga hxa fa) | (refine z2lz ?_; intro wb hmb fb; have hx := hmb.after hxa (fun j e => e ▸ hga); replace hH := hH.ext hx; replace hX := hX.trans hx; clear hx hxa hmb fa hga) | refine zsz ?_ | (go_at_call 21; refine (index_held hH).mono ?_; rintro e wi ⟨rfl, hx⟩; rw [hi0.out]; replace hH := hH.ext hx; replace fb := fb.ext hx; replace hX := hX.trans hx; clear hx) | (refine z3xz ?_; intro ov0 wn0 B hB1 hB2 hx hn1; have hr0 := hide_ (RowN.acts (l := []) hn1); replace hH := hH.ext hx; replace fb := fb.ext hx; replace hX := hX.trans hx; clear hx hB1 hB2 hn1) | (go_at_call 11; refine (refMRight_any (d := d.m) (u := ua) (hua.out.ext TxR.stays hX) hav.out hap.out).mono ?_; rintro e we ⟨rfl, hx⟩; rw [har.out]; replace fb := fb.ext hx; replace hH := hH.ext hx; have hxe := hx; replace hX := hX.trans hx; clear hx) | (go_at_call 12; refine (refMCopy_any (d := d.m) (u := ua) (hua.out.ext TxR.stays hX) haf.out).mono ?_; rintro e wf ⟨uc, rfl, cc, hx⟩; replace hH := hH.ext hx; replace hX := hX.trans hx; clear hx) | ((with_reducible refine at_lit ?_); refine w_new Tryz.elI (o := ⟨some 76, _, _, _, _, _⟩) (i64s []) rfl rfl rfl (i64s_cells _) rfl (by omega) ?_; intro v3 wc hx3 ho3; have o3 : OwnI _ wc v3 [] := ho3; clear ho3) | (refine z57z ?_; intro vm wd ho4 hb4 hg4 hl4; have hx4 := hx3.trans' hb4; rw [List.nil_append] at ho4; clear hb4 hg4 hl4 o3 hx3) | (go_at_call 10; refine (handle_held hH hx4 ho4 hsp.out hout.out hmRd.out).mono ?_; rintro e wt ⟨ov, rfl, hH2, hr1⟩) | fail) <;> (try refine z1z ?_))
      obtain ⟨c1, hc1⟩ : ∃ x, c.handle d.m.msv kl = x := ⟨_, rfl⟩
      have hs1 := spk_handleR (kn := kl) hsp.out hmRd.out
      have hk1 := like_handle c d.m.msv kl
      rw [hc1] at hH2 hr1 hs1 hk1
      have hr := hide_ hr1
      have hsp1 := hide_ hs1
      have ht1 := hide_ (hk1.2.1.trans ht.out)
      have hme1 := hide_ (hk1.1.trans hme.out)
      replace hH := hide_ hH2
      clear hH2 hr1 hs1 hk1 hc1
      go_wp2_with ((first | refine z5az ?_ | fail) <;> (try refine z1z ?_))
      go_loopw [82] (fun i wr2 => ∃ j : Nat, i = .int .i64 j ∧ j ≤ c1.out.length ∧ Ext wt wr2) (fun i _ => c1.out.length - (RowKit.intOf i).toNat)
      case atStart => exact z69z
      case round =>
        obtain ⟨j, rfl, hj, hxt⟩ := hrel
        by_cases hgj : c1.out.length ≤ j
        · obtain rfl : j = c1.out.length := by omega
          have t3 : decide ((c1.out.length : Int) < (c1.out.length : Int)) = false := by simp
          have t3' : decide (c1.out.length < c1.out.length) = false := by simp
          clear hgj
          go_wp2
          go_roundw
          case rel => exact z55z
          case measure => have := hkl.out; simp [RowKit.intOf]; omega
        have hlt : j < c1.out.length := by omega
        have t3 : decide ((j : Int) < (c1.out.length : Int)) = true := by simp; omega
        have t3' : decide (j < c1.out.length) = true := by simpa using hlt
        have hjl := hide_ hlt
        have hjb : j < 9223372036854775807 := by have := hr.out.len_le; unfold maxLen at this; omega
        obtain ⟨a, ha0⟩ : ∃ a, c1.out[j]? = some a := ⟨_, List.getElem?_eq_getElem hlt⟩
        have ha := hide_ ha0
        obtain ⟨k1, k2, k3, k4, k5, k6⟩ := hsp1.out.2.2 a (List.mem_of_getElem? ha0)
        have hst7 := hg.out.st.2.1
        have hfm : a.m.msg.fm = g.me := by show a.m.fm = g.me; rw [k2, hme1.out]; have := hg.out.me; omega
        have hmr := hide_ (decide_eq_true (k1.right ⟨by rw [k2]; omega, by rw [k2]; have := hsp1.out.1.lt; rw [ht1.out] at this; omega⟩))
        have hvl := hide_ (show I64 a.m.msg.vl from by
          have := (k1.right ⟨by rw [k2]; omega, by rw [k2]; have := hsp1.out.1.lt; rw [ht1.out] at this; omega⟩ : a.m.msg.Right)
          exact (nv_i64 k1))
        obtain ⟨n, hn0⟩ : ∃ n : Int, ((c1.flush.dec.length : Nat) : Int) = n := ⟨_, rfl⟩
        have hn := hide_ hn0
        obtain ⟨vv, hv0⟩ : ∃ v : Int, c1.flush.view = v := ⟨_, rfl⟩
        have hv := hide_ hv0
        have tfm : (a.m.msg.fm != g.me) = false := by simp [hfm]
        have tix : decide (a.m.msg.ix > n) = false := decide_eq_false (show ¬ n < a.m.ix from Int.not_lt.2 (by rw [← hn0]; exact k4))
        have tt1 : decide (a.to < -1) = false := decide_eq_false (by omega)
        have tt2 : decide (a.to ≥ ((g.st.length : Nat) : Int)) = false := decide_eq_false (by rw [ht1.out] at k3; omega)
        have hHr := hH.out.ext hxt
        have hX := hX0.out.trans hHr.x
        have f3 := f30.out.ext hHr.x
        by_cases q0 : a.to = -1
        · have tq : (a.to == -1) = true := by simp [q0]
          have ti0 : decide (a.m.msg.ix < i0) = false := decide_eq_false (show ¬ a.m.ix < i0 from Int.not_lt.2 (by rw [← hi0.out]; exact k5 q0))
          clear q0
          by_cases e1 : a.m.ix = n
          rotate_left
          · have te1 : (a.m.msg.ix == n) = false := by show (a.m.ix == n) = false; simp [e1]
            clear hlt ha0 k1 k2 k3 k4 k5 k6 hst7 hfm hn0 hv0 hgj e1
            go_wp2_with ((first | (refine z1hz ?_; intro pa hrow; replace hrow := hide_ hrow) | refine z1iz ?_ | (refine z1az ?_; intro g14 wa hga hxa fa; replace hga := hide_ hga; replace hxa := hide_ hxa) | (refine z14z ?_; intro wb hmb f14; have hx := hmb.after hxa.out (fun j e => e ▸ hga.out); replace hHr := hHr.ext hx; replace hX := hX.trans hx; replace f3 := f3.ext hx; replace hxt := hxt.trans hx; clear hx hmb fa hga hxa) | refine zkz ?_ | (refine z1bz ?_; intro g15 wa2 hgb hxb fa2; replace hgb := hide_ hgb; replace hxb := hide_ hxb; have hne := hide_ (show g14 ≠ g15 from fun e => by have h1 := f14.lt; have h2 := hgb.out; omega); replace f14 := f14.ext hxb.out) | (refine z10z ?_; intro wb2 hmb2 f15; replace f14 := f14.mod hmb2 (fun e => hne.out e); have hx := hmb2.after hxb.out (fun j e => e ▸ hgb.out); replace hHr := hHr.ext hx; replace hX := hX.trans hx; replace f3 := f3.ext hx; replace hxt := hxt.trans hx; clear hx hmb2 fa2 hgb hxb hne) | fail) <;> (try refine z1z ?_))
            refine ztz ?_; intro wd hxd; have F3 := f3.ext hxd; have F14 := f14.ext hxd; have F15 := f15.ext hxd; have HH := hHr.ext hxd; have UG := (hu.out.ext hX).ext hxd
            refine z4z ?_
            intro wN hxN
            refine z15z ?_
            replace hxt := hxt.trans (hxd.trans hxN); replace hX := hX.trans (hxd.trans hxN); replace f3 := f3.ext (hxd.trans hxN); replace f14 := f14.ext (hxd.trans hxN); replace f15 := f15.ext (hxd.trans hxN); replace hHr := hHr.ext (hxd.trans hxN); clear hxd hxN F3 F14 F15 HH UG
            go_wp2
            refine ztz ?_; intro wd hxd; have F15 := f15.ext hxd; have HH := hHr.ext hxd
            refine zpz ?_
            intro wN hxN
            refine z15z ?_
            replace hxt := hxt.trans (hxd.trans hxN); clear hxd hxN F15 HH
            go_wp2
            go_roundw
            case rel => exact z31z
            case measure => have := hjl.out; simp [RowKit.intOf]; omega
          have te1 : (a.m.msg.ix == n) = true := by show (a.m.ix == n) = true; simp [e1]
          by_cases e2 : a.m.kd = 6
          · have te2 : (a.m.msg.kd != 6) = false := by show (a.m.kd != 6) = false; simp [e2]
            clear hlt ha0 k1 k2 k3 k4 k5 k6 hst7 hfm hn0 hv0 hgj e1 e2
            go_wp2_with ((first | (refine z1hz ?_; intro pa hrow; replace hrow := hide_ hrow) | refine z1iz ?_ | (refine z1az ?_; intro g14 wa hga hxa fa; replace hga := hide_ hga; replace hxa := hide_ hxa) | (refine z14z ?_; intro wb hmb f14; have hx := hmb.after hxa.out (fun j e => e ▸ hga.out); replace hHr := hHr.ext hx; replace hX := hX.trans hx; replace f3 := f3.ext hx; replace hxt := hxt.trans hx; clear hx hmb fa hga hxa) | refine zkz ?_ | (refine z1bz ?_; intro g15 wa2 hgb hxb fa2; replace hgb := hide_ hgb; replace hxb := hide_ hxb; have hne := hide_ (show g14 ≠ g15 from fun e => by have h1 := f14.lt; have h2 := hgb.out; omega); replace f14 := f14.ext hxb.out) | (refine z10z ?_; intro wb2 hmb2 f15; replace f14 := f14.mod hmb2 (fun e => hne.out e); have hx := hmb2.after hxb.out (fun j e => e ▸ hgb.out); replace hHr := hHr.ext hx; replace hX := hX.trans hx; replace f3 := f3.ext hx; replace hxt := hxt.trans hx; clear hx hmb2 fa2 hgb hxb hne) | fail) <;> (try refine z1z ?_))
            refine ztz ?_; intro wd hxd; have F3 := f3.ext hxd; have F14 := f14.ext hxd; have F15 := f15.ext hxd; have HH := hHr.ext hxd; have UG := (hu.out.ext hX).ext hxd
            refine z4z ?_
            intro wN hxN
            refine z15z ?_
            replace hxt := hxt.trans (hxd.trans hxN); replace hX := hX.trans (hxd.trans hxN); replace f3 := f3.ext (hxd.trans hxN); replace f14 := f14.ext (hxd.trans hxN); replace f15 := f15.ext (hxd.trans hxN); replace hHr := hHr.ext (hxd.trans hxN); clear hxd hxN F3 F14 F15 HH UG
            go_wp2
            refine ztz ?_; intro wd hxd; have F15 := f15.ext hxd; have HH := hHr.ext hxd
            refine zbz ?_
            intro wN hxN
            refine z15z ?_
            replace hxt := hxt.trans (hxd.trans hxN); clear hxd hxN F15 HH
            go_wp2
            go_roundw
            case rel => exact z31z
            case measure => have := hjl.out; simp [RowKit.intOf]; omega
          have te2 : (a.m.msg.kd != 6) = true := by show (a.m.kd != 6) = true; simp [e2]
          have te3 : decide (a.m.msg.vw > vv) = false := decide_eq_false (show ¬ vv < a.m.vw from Int.not_lt.2 (by rw [← hv0]; exact k6 (by rw [e1, ← hn0]; rfl) e2))
          clear hlt ha0 k1 k2 k3 k4 k5 k6 hst7 hfm hn0 hv0 hgj e1 e2
          go_wp2_with ((first | (refine z1hz ?_; intro pa hrow; replace hrow := hide_ hrow) | refine z1iz ?_ | (refine z1az ?_; intro g14 wa hga hxa fa; replace hga := hide_ hga; replace hxa := hide_ hxa) | (refine z14z ?_; intro wb hmb f14; have hx := hmb.after hxa.out (fun j e => e ▸ hga.out); replace hHr := hHr.ext hx; replace hX := hX.trans hx; replace f3 := f3.ext hx; replace hxt := hxt.trans hx; clear hx hmb fa hga hxa) | refine zkz ?_ | (refine z1bz ?_; intro g15 wa2 hgb hxb fa2; replace hgb := hide_ hgb; replace hxb := hide_ hxb; have hne := hide_ (show g14 ≠ g15 from fun e => by have h1 := f14.lt; have h2 := hgb.out; omega); replace f14 := f14.ext hxb.out) | (refine z10z ?_; intro wb2 hmb2 f15; replace f14 := f14.mod hmb2 (fun e => hne.out e); have hx := hmb2.after hxb.out (fun j e => e ▸ hgb.out); replace hHr := hHr.ext hx; replace hX := hX.trans hx; replace f3 := f3.ext hx; replace hxt := hxt.trans hx; clear hx hmb2 fa2 hgb hxb hne) | fail) <;> (try refine z1z ?_))
          refine ztz ?_; intro wd hxd; have F3 := f3.ext hxd; have F14 := f14.ext hxd; have F15 := f15.ext hxd; have HH := hHr.ext hxd; have UG := (hu.out.ext hX).ext hxd
          refine z4z ?_
          intro wN hxN
          refine z15z ?_
          replace hxt := hxt.trans (hxd.trans hxN); replace hX := hX.trans (hxd.trans hxN); replace f3 := f3.ext (hxd.trans hxN); replace f14 := f14.ext (hxd.trans hxN); replace f15 := f15.ext (hxd.trans hxN); replace hHr := hHr.ext (hxd.trans hxN); clear hxd hxN F3 F14 F15 HH UG
          go_wp2
          refine ztz ?_; intro wd hxd; have F15 := f15.ext hxd; have HH := hHr.ext hxd
          refine z2z ?_
          intro wN hxN
          refine z15z ?_
          replace hxt := hxt.trans (hxd.trans hxN); clear hxd hxN F15 HH
          go_wp2
          go_roundw
          case rel => exact z31z
          case measure => have := hjl.out; simp [RowKit.intOf]; omega
        have tq : (a.to == -1) = false := by simp [q0]
        clear q0
        by_cases e1 : a.m.ix = n
        rotate_left
        · have te1 : (a.m.msg.ix == n) = false := by show (a.m.ix == n) = false; simp [e1]
          clear hlt ha0 k1 k2 k3 k4 k5 k6 hst7 hfm hn0 hv0 hgj e1
          go_wp2_with ((first | (refine z1hz ?_; intro pa hrow; replace hrow := hide_ hrow) | refine z1iz ?_ | (refine z1az ?_; intro g14 wa hga hxa fa; replace hga := hide_ hga; replace hxa := hide_ hxa) | (refine z14z ?_; intro wb hmb f14; have hx := hmb.after hxa.out (fun j e => e ▸ hga.out); replace hHr := hHr.ext hx; replace hX := hX.trans hx; replace f3 := f3.ext hx; replace hxt := hxt.trans hx; clear hx hmb fa hga hxa) | refine zkz ?_ | (refine z1bz ?_; intro g15 wa2 hgb hxb fa2; replace hgb := hide_ hgb; replace hxb := hide_ hxb; have hne := hide_ (show g14 ≠ g15 from fun e => by have h1 := f14.lt; have h2 := hgb.out; omega); replace f14 := f14.ext hxb.out) | (refine z10z ?_; intro wb2 hmb2 f15; replace f14 := f14.mod hmb2 (fun e => hne.out e); have hx := hmb2.after hxb.out (fun j e => e ▸ hgb.out); replace hHr := hHr.ext hx; replace hX := hX.trans hx; replace f3 := f3.ext hx; replace hxt := hxt.trans hx; clear hx hmb2 fa2 hgb hxb hne) | fail) <;> (try refine z1z ?_))
          refine ztz ?_; intro wd hxd; have F3 := f3.ext hxd; have F14 := f14.ext hxd; have F15 := f15.ext hxd; have HH := hHr.ext hxd; have UG := (hu.out.ext hX).ext hxd
          refine z11z ?_
          intro wN hxN
          refine z15z ?_
          replace hxt := hxt.trans (hxd.trans hxN); replace hX := hX.trans (hxd.trans hxN); replace f3 := f3.ext (hxd.trans hxN); replace f14 := f14.ext (hxd.trans hxN); replace f15 := f15.ext (hxd.trans hxN); replace hHr := hHr.ext (hxd.trans hxN); clear hxd hxN F3 F14 F15 HH UG
          go_wp2
          refine ztz ?_; intro wd hxd; have F15 := f15.ext hxd; have HH := hHr.ext hxd
          refine zpz ?_
          intro wN hxN
          refine z15z ?_
          replace hxt := hxt.trans (hxd.trans hxN); clear hxd hxN F15 HH
          go_wp2
          go_roundw
          case rel => exact z31z
          case measure => have := hjl.out; simp [RowKit.intOf]; omega
        have te1 : (a.m.msg.ix == n) = true := by show (a.m.ix == n) = true; simp [e1]
        by_cases e2 : a.m.kd = 6
        · have te2 : (a.m.msg.kd != 6) = false := by show (a.m.kd != 6) = false; simp [e2]
          clear hlt ha0 k1 k2 k3 k4 k5 k6 hst7 hfm hn0 hv0 hgj e1 e2
          go_wp2_with ((first | (refine z1hz ?_; intro pa hrow; replace hrow := hide_ hrow) | refine z1iz ?_ | (refine z1az ?_; intro g14 wa hga hxa fa; replace hga := hide_ hga; replace hxa := hide_ hxa) | (refine z14z ?_; intro wb hmb f14; have hx := hmb.after hxa.out (fun j e => e ▸ hga.out); replace hHr := hHr.ext hx; replace hX := hX.trans hx; replace f3 := f3.ext hx; replace hxt := hxt.trans hx; clear hx hmb fa hga hxa) | refine zkz ?_ | (refine z1bz ?_; intro g15 wa2 hgb hxb fa2; replace hgb := hide_ hgb; replace hxb := hide_ hxb; have hne := hide_ (show g14 ≠ g15 from fun e => by have h1 := f14.lt; have h2 := hgb.out; omega); replace f14 := f14.ext hxb.out) | (refine z10z ?_; intro wb2 hmb2 f15; replace f14 := f14.mod hmb2 (fun e => hne.out e); have hx := hmb2.after hxb.out (fun j e => e ▸ hgb.out); replace hHr := hHr.ext hx; replace hX := hX.trans hx; replace f3 := f3.ext hx; replace hxt := hxt.trans hx; clear hx hmb2 fa2 hgb hxb hne) | fail) <;> (try refine z1z ?_))
          refine ztz ?_; intro wd hxd; have F3 := f3.ext hxd; have F14 := f14.ext hxd; have F15 := f15.ext hxd; have HH := hHr.ext hxd; have UG := (hu.out.ext hX).ext hxd
          refine z11z ?_
          intro wN hxN
          refine z15z ?_
          replace hxt := hxt.trans (hxd.trans hxN); replace hX := hX.trans (hxd.trans hxN); replace f3 := f3.ext (hxd.trans hxN); replace f14 := f14.ext (hxd.trans hxN); replace f15 := f15.ext (hxd.trans hxN); replace hHr := hHr.ext (hxd.trans hxN); clear hxd hxN F3 F14 F15 HH UG
          go_wp2
          refine ztz ?_; intro wd hxd; have F15 := f15.ext hxd; have HH := hHr.ext hxd
          refine zbz ?_
          intro wN hxN
          refine z15z ?_
          replace hxt := hxt.trans (hxd.trans hxN); clear hxd hxN F15 HH
          go_wp2
          go_roundw
          case rel => exact z31z
          case measure => have := hjl.out; simp [RowKit.intOf]; omega
        have te2 : (a.m.msg.kd != 6) = true := by show (a.m.kd != 6) = true; simp [e2]
        have te3 : decide (a.m.msg.vw > vv) = false := decide_eq_false (show ¬ vv < a.m.vw from Int.not_lt.2 (by rw [← hv0]; exact k6 (by rw [e1, ← hn0]; rfl) e2))
        clear hlt ha0 k1 k2 k3 k4 k5 k6 hst7 hfm hn0 hv0 hgj e1 e2
        go_wp2_with ((first | (refine z1hz ?_; intro pa hrow; replace hrow := hide_ hrow) | refine z1iz ?_ | (refine z1az ?_; intro g14 wa hga hxa fa; replace hga := hide_ hga; replace hxa := hide_ hxa) | (refine z14z ?_; intro wb hmb f14; have hx := hmb.after hxa.out (fun j e => e ▸ hga.out); replace hHr := hHr.ext hx; replace hX := hX.trans hx; replace f3 := f3.ext hx; replace hxt := hxt.trans hx; clear hx hmb fa hga hxa) | refine zkz ?_ | (refine z1bz ?_; intro g15 wa2 hgb hxb fa2; replace hgb := hide_ hgb; replace hxb := hide_ hxb; have hne := hide_ (show g14 ≠ g15 from fun e => by have h1 := f14.lt; have h2 := hgb.out; omega); replace f14 := f14.ext hxb.out) | (refine z10z ?_; intro wb2 hmb2 f15; replace f14 := f14.mod hmb2 (fun e => hne.out e); have hx := hmb2.after hxb.out (fun j e => e ▸ hgb.out); replace hHr := hHr.ext hx; replace hX := hX.trans hx; replace f3 := f3.ext hx; replace hxt := hxt.trans hx; clear hx hmb2 fa2 hgb hxb hne) | fail) <;> (try refine z1z ?_))
        refine ztz ?_; intro wd hxd; have F3 := f3.ext hxd; have F14 := f14.ext hxd; have F15 := f15.ext hxd; have HH := hHr.ext hxd; have UG := (hu.out.ext hX).ext hxd
        refine z11z ?_
        intro wN hxN
        refine z15z ?_
        replace hxt := hxt.trans (hxd.trans hxN); replace hX := hX.trans (hxd.trans hxN); replace f3 := f3.ext (hxd.trans hxN); replace f14 := f14.ext (hxd.trans hxN); replace f15 := f15.ext (hxd.trans hxN); replace hHr := hHr.ext (hxd.trans hxN); clear hxd hxN F3 F14 F15 HH UG
        go_wp2
        refine ztz ?_; intro wd hxd; have F15 := f15.ext hxd; have HH := hHr.ext hxd
        refine z2z ?_
        intro wN hxN
        refine z15z ?_
        replace hxt := hxt.trans (hxd.trans hxN); clear hxd hxN F15 HH
        go_wp2
        go_roundw
        case rel => exact z31z
        case measure => have := hjl.out; simp [RowKit.intOf]; omega
    have har := hide_ (decide_eq_false q2)
    clear hge hlt hd0 q1 q2 hsp1 hout1 ht1 hme1 hi00
    go_upto_region 20 with ((first | go_big_skip | (refine z2xz ?_; intro pa ua hrow hua hraw; replace hrow := hide_ hrow; replace hua := hide_ hua; have hav := hide_ hraw.vl; have hap := hide_ hraw.bk.parent; have haf := hide_ hraw.few; clear hraw) | refine z38z ?_ | (refine z41z ?_; intro ga wa hga hxa fa) | (refine z2lz ?_; intro wb hmb fb; have hx := hmb.after hxa (fun j e => e ▸ hga); replace hH := hH.ext hx; replace hX := hX.trans hx; clear hx hxa hmb fa hga) | refine zsz ?_ | (go_at_call 21; refine (index_held hH).mono ?_; rintro e wi ⟨rfl, hx⟩; rw [hi0.out]; replace hH := hH.ext hx; replace fb := fb.ext hx; replace hX := hX.trans hx; clear hx) | (refine z3xz ?_; intro ov0 wn0 B hB1 hB2 hx hn1; have hr0 := hide_ (RowN.acts (l := []) hn1); replace hH := hH.ext hx; replace fb := fb.ext hx; replace hX := hX.trans hx; clear hx hB1 hB2 hn1) | (go_at_call 11; refine (refMRight_any (d := d.m) (u := ua) (hua.out.ext TxR.stays hX) hav.out hap.out).mono ?_; rintro e we ⟨rfl, hx⟩; rw [har.out]; replace fb := fb.ext hx; replace hH := hH.ext hx; have hxe := hx; replace hX := hX.trans hx; clear hx) | fail) <;> (try refine z1z ?_))
    have hhH := hide_ hH
    go_wp2_with ((first | ((with_reducible refine at_bi ?_); refine w_rlen Tryz.elAct _ rfl rfl rfl (hr0.out.ext AcR.stays hxe) ?_; rw [List.length_nil]) | fail) <;> (try refine z1z ?_))
    go_loopw [82] (fun i wr2 => ∃ j : Nat, i = .int .i64 j ∧ j ≤ 0 ∧ Ext we wr2) (fun i _ => 0 - (RowKit.intOf i).toNat)
    case atStart => exact z69z
    case round =>
      obtain ⟨j, rfl, hj, hxt⟩ := hrel
      obtain rfl : j = 0 := by omega
      go_wp2
      go_roundw
      case rel => exact ⟨k + 1, c, by go_num, hkl.out, hhH.out.ext hxt, hsp.out, hout.out, ht.out, hme.out⟩
      case measure => have := hkl.out; simp [RowKit.intOf]; omega
theorem checkSpeaks_lifted (os : Os) (started : os.Started) (H : Type) (enc : TypeId × Value → H) :
    ReturnsInHanded {} Tryz.checked os 5 .any (Rows.checkSpeaksSpec.pre6 enc Tryz.prog Tryz.f5 Rows.checkSpeaksRow.domain false) (Rows.checkSpeaksSpec.post enc Tryz.prog Tryz.f5 false true false false) := by
  refine law_lifted (s := Rows.checkSpeaksSpec) (conds := Rows.checkSpeaksRow.domain) Tryz.func5 (by kernel_rfl) rfl (fun H ds h => by
      rw [show Tryz.f5.params.size = 3 from rfl] at h
      match ds, h with
      | [d0, d1, d2], _ => rfl) rfl rfl (by decide +kernel) os started H enc
    (ChangeSpec.witness6 (enc := enc) (C := Tryz.checked) false ⟨#[], #[.agg #[.int .i64 0, .int .i64 0, .int .i64 0, .slice none 0 0], .slice none 0 0, .slice none 0 0], []⟩ 8 (by kernel_rfl) (by kernel_rfl) (by kernel_rfl) (by kernel_rfl)) ?_
  intro W base args ds p hval hA hsz _
  have hp : Tryz.f5.params.toList = [24, 22, 56] := rfl
  rw [hp] at hA hsz
  obtain ⟨v0, v1, v2, d0, d1, d2, p0, p1, p2, rfl, rfl, rfl, h0, h1, h2⟩ := trodAll_three hA
  obtain ⟨row0, g0, rfl, _, ⟨u0, rfl, a0⟩, b0, c0⟩ := arg_Cf hsz (j := 0) rfl rfl (hval 0 24 v0 rfl rfl) h0
  obtain ⟨l1, a1, b1, c1⟩ := arg_ints hsz (j := 1) rfl rfl (hval 1 22 v1 rfl rfl) h1
  obtain ⟨l2, a2⟩ := arg_AcEs hsz (j := 2) rfl rfl (hval 2 56 v2 rfl rfl) h2
  exact checkSpeaks_law v1 v2 u0 g0 l1 l2 W a0 c0 a1 b1 c1 a2
theorem checkSpeaks_holds : Rows.CheckSpeaksSaid :=
  OpenClaim.holds_of_wide 5 Tryz.f5 rfl rfl rfl rfl rfl rfl rfl ⟨rfl, rfl, rfl, rfl, rfl⟩ rfl rfl rfl rfl rfl (by kernel_rfl) Tryz.func5 (by kernel_rfl)
    (of_decide_eq_true (by kernel_rfl)) (by unfold Func.isWrapper; first | (rw [if_pos (by decide +kernel)]; kernel_rfl) | (rw [if_neg (by decide +kernel)]; exact ⟨rfl, rfl⟩))
    (fun os started H enc _ => checkSpeaks_lifted os started H enc)
#print axioms checkSpeaks_holds
end Go.Proofs.YtajkjiegcmpjaaaGreat
