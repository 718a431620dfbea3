/- The statement FetchRuns: whatever is done with wishes, all that is answered, wanted and asked is as the document says. No condition. -/
import Derived.Test.YtajkjiegcmpjaaaPk25
import Derived.Test.YtajkjiegcmpjaaaPk27
namespace Go.Proofs.Ytajkjiegcmpjaaa
set_option maxHeartbeats 3200000
set_option maxRecDepth 100000
open Go.RowKit Go.ChangeShapes Go.WideShapes Go.ChangeAt
theorem RFn.open {w w' : World} {me nd : Int} {l : List WtD} {vn va : Value} {cs' : List Value} (h : RFn w w' me nd l [.int .i64 me, .int .i64 nd, vn, va] cs') : ∃ vn' va', cs' = [.int .i64 me, .int .i64 nd, vn', va'] ∧ Ints w' vn' (l.map (·.nm)) ∧ Ints w' va' (l.map (·.ak)) ∧ Nw w w' vn vn' ∧ Nw w w' va va' := by
  obtain ⟨on, oa, vn', va', e1, e2, h1, h2, h3, h4⟩ := h
  simp only [List.cons.injEq, and_true, true_and] at e1
  obtain ⟨rfl, rfl⟩ := e1
  exact ⟨vn', va', e2, h1, h2, h3, h4⟩
theorem Nw.safe {G : Nat → Prop} {w w' : World} {old v : Value} {xs ys : List Value} (n : Nw w w' old v) (s : Safe G w old xs) (hx : Ext w w') (hl : ∀ k, G k → k < w.heap.size) (i : Sl w' v ys) : Safe G w' v ys :=
  ⟨i, fun q hq hg => (n q hq).elim (fun h => by have := hl q hg; omega) fun h => s.off q h hg, fun q hq => (n q hq).elim And.right fun h => Nat.lt_of_lt_of_le (s.lt q h) hx.size⟩
theorem recs_nil {me : Int} {w w' : World} {v : Value} (h : Recs 14 (AtR me) w v []) : Recs 14 (AtR me) w' v [] := by
  obtain ⟨rows, ⟨A, c, rfl, h1, h2, h3⟩, hl, hR⟩ := h
  obtain rfl : rows = [] := List.eq_nil_of_length_eq_zero (by simpa using hl)
  exact ⟨[], ⟨A, c, rfl, h1, h2, fun k row hk => by simp at hk⟩, rfl, fun k row d hk => by simp at hk⟩
theorem retXs {f : FuncId} {args : Array Value} {w : World} {B : Nat} {L : List Int} (h : Calls Try.prog f args w fun e w' => ∃ u, e = .returned u ∧ OwnI B w' u L ∧ Ext w w') : Calls Try.prog f args w fun e w' => ∃ v', e = .returned v' ∧ Ext w w' ∧ Sp.p (.sl (i64s L)) v' w' := by
  refine h.mono ?_
  rintro e w' ⟨u, rfl, o, hx⟩
  exact ⟨_, rfl, hx, o.ints⟩
theorem fetchRuns_law (me nd : Int) (va0 : Value) (acts : List FacD) (W : World) (ha0 : Recs 2 FacR W va0 acts) : Calls Try.prog 5 #[.int .i64 me, .int .i64 nd, va0] W fun e w' => e = .returned (.bool true) ∧ Ext W w' := by
  refine z2cz ?_
  have ha := hide_ ha0
  clear ha0
  go_enter Try.func5, Try.ntmps5
  go_upto_region 3 with (first | (go_at_call 15; refine (fetchAlive_any _).mono ?_; rintro e w2 ⟨rfl, hX⟩) | fail)
  by_cases h1 : nd < 1
  · have d1 : decide (nd < 1) = true := decide_eq_true h1
    clear h1
    go_wp2_with ((first | go_big_skip | refine z28z ?_ | fail) <;> (try refine z0z ?_))
    go_ret
    exact z2dz
  have d1 : decide (nd < 1) = false := decide_eq_false h1
  by_cases h2 : 7 < nd
  · have d2 : decide (7 < nd) = true := decide_eq_true h2
    clear h1 h2
    go_wp2_with ((first | go_big_skip | refine z28z ?_ | fail) <;> (try refine z0z ?_))
    go_ret
    exact z2dz
  have d2 : decide (7 < nd) = false := decide_eq_false h2
  by_cases h3 : me < 0
  · have d3 : decide (me < 0) = true := decide_eq_true h3
    clear h1 h2 h3
    go_wp2_with ((first | go_big_skip | refine z28z ?_ | fail) <;> (try refine z0z ?_))
    go_ret
    exact z2dz
  have d3 : decide (me < 0) = false := decide_eq_false h3
  by_cases h4 : nd ≤ me
  · have d4 : decide (nd ≤ me) = true := decide_eq_true h4
    clear h1 h2 h3 h4
    go_wp2_with ((first | go_big_skip | refine z28z ?_ | fail) <;> (try refine z0z ?_))
    go_ret
    exact z2dz
  have d4 : decide (nd ≤ me) = false := decide_eq_false h4
  by_cases h5 : (200 : Int) < (acts.length : Int)
  · have d5 : decide ((200 : Int) < (acts.length : Int)) = true := decide_eq_true h5
    clear h1 h2 h3 h4 h5
    go_wp2_with ((first | go_big_skip | refine z28z ?_ | fail) <;> (try refine z0z ?_))
    go_ret
    exact z2dz
  have d5 : decide ((200 : Int) < (acts.length : Int)) = false := decide_eq_false h5
  have hnd := hide_ (show 1 ≤ nd ∧ nd ≤ 7 from by omega)
  have hme := hide_ (show 0 ≤ me ∧ me < nd from by omega)
  have hal : acts.length ≤ 200 := by omega
  clear h1 h2 h3 h4 h5
  go_wp2_with ((first | go_big_skip | (go_at_call 16; refine (FNew_any me nd).mono ?_; rintro e w1 ⟨p, rfl, hP, hx, hp⟩; have hO : Out W (fun k => k = p) w1 := ⟨hX.trans hx, fun k hk => hk ▸ Nat.le_trans hX.size hp⟩; clear hx hp hX) | refine z28z ?_ | ((with_reducible refine at_bi ?_); (try refine w_yes _ _ _ rfl rfl rfl ?_); refine w_rlen Try.elFac _ rfl rfl rfl (ha.out.ext FacR.stays hO.ext) ?_) | (refine z3wz ?_; refine w_sbuild Try.stRF [.int .i64 me, .int .i64 nd, .slice none 0 0, .slice none 0 0] rfl rfl rfl (by intro p hp; simp at hp; rcases hp with rfl | rfl <;> exact ⟨by decide, rfl⟩) ?_) | (refine z3rz ?_; intro g8 w2 hg8 hxa f8) | (refine z3az ?_; refine w_astore Try.stRF _ _ (us := [.int .i64 me, .int .i64 nd, .slice none 0 0, .slice none 0 0]) rfl rfl rfl rfl rfl f8 rfl rfl (by intro u hu; simp at hu; rcases hu with rfl | rfl | rfl <;> rfl) ?_; intro w3 hm3 f83; have hx := hm3.after hxa (fun i e => e ▸ hg8); have hn80 := hide_ (show ¬ g8 = p from fun e => by have := hP.lt p rfl; omega); have hW8 := hide_ (show W.heap.size ≤ g8 from Nat.le_trans hO.ext.size hg8); replace hP := hP.ext hx; replace hO := hO.extend hx; replace f8 := f83; clear hx hm3 hxa f83 hg8) | fail) <;> (try refine z0z ?_))
  have s0 : Safe (fun k => k = p ∨ k = g8) w3 (.slice none 0 0) (i64s ([] : List Int)) := ⟨(OwnI.nil 0 w3).ints, (fun _ h => nomatch h), (fun _ h => nomatch h)⟩
  go_loopw [45] (fun i wr => ∃ (k : Nat) (F : Nat → Prop) (l : List WtD) (vn va : Value), i = .int .i64 k ∧ k ≤ acts.length ∧ Fe.Ok k l ∧ Ft F wr p me nd l ∧ Out W F wr ∧ Fs wr g8 [.int .i64 me, .int .i64 nd, vn, va] ∧ Safe (fun k => F k ∨ k = g8) wr vn (i64s (l.map (·.nm))) ∧ Safe (fun k => F k ∨ k = g8) wr va (i64s (l.map (·.ak))) ∧ ¬ F g8) (fun i _ => acts.length - (RowKit.intOf i).toNat)
  case atStart => exact ⟨0, _, [], _, _, rfl, Nat.zero_le _, Fe.Ok.nil 0, hP, hO, f8, s0, s0, hn80.out⟩
  case round =>
    clear hP hO f8 s0
    obtain ⟨k, F, l, vn, va, rfl, hk, hok0, hP, hO, f8, sN, sA, hn80'⟩ := hrel
    have hok := hide_ hok0
    have hn8 := hide_ hn80'
    by_cases hge : acts.length ≤ k
    · obtain rfl : k = acts.length := by omega
      have t2 : decide (acts.length < acts.length) = false := by simp
      clear hge hok0 hn80'
      go_wp2
      go_ret
      exact Keep.intro ⟨rfl, hO.ext⟩
    have hlt : k < acts.length := by omega
    have t2 : decide (k < acts.length) = true := decide_eq_true hlt
    obtain ⟨d, hd0⟩ : ∃ d, acts[k]? = some d := ⟨_, List.getElem?_eq_getElem hlt⟩
    have hd := hide_ hd0
    have hlt' := hide_ hlt
    have hI := hide_ (show I64 d.n from by
      obtain ⟨rows, _, hl, hr⟩ := ha.out
      have h1 := hr k _ _ (List.getElem?_eq_getElem (by omega)) hd0
      exact h1.2.n)
    have tokA : True := trivial
    have hqq : (false != false) = false := rfl
    clear hge hlt hd0 hn80'
    by_cases k0 : d.k = 0
    · have c0 : (d.k == 0) = true := by simp [k0]
      obtain ⟨q, hq0⟩ : ∃ q, Fe.can l d.n = q := ⟨_, rfl⟩
      have hq := hide_ hq0
      have hokN := hide_ ((hok0.want d.n).mono (show k ≤ k + 1 by omega))
      clear k0 hq0 hok0 hqq
      have hqq : (q != q) = false := by simp
      go_wp2_with ((first | (refine z3tz ?_; intro pa hrow0 _; have hrow := hide_ hrow0; clear hrow0) | refine z43z ?_ | (refine z4qz ?_; intro g10 w5 hg10 hxa f10) | (refine z3az ?_; refine w_astore Try.stFac _ _ (us := [.int .i64 d.k, .int .i64 d.n]) rfl rfl rfl rfl rfl f10 rfl rfl (by intro u hu; simp at hu; rcases hu with rfl | rfl <;> rfl) ?_; intro w6 hm6 f6; have hx := hm6.after hxa (fun i e => e ▸ hg10); have hn10 := hide_ (show ¬ F g10 from fun h => by have := hP.lt g10 h; omega); have h810 := hide_ (show ¬ g10 = g8 from fun e => by have := f8.lt; omega); replace hP := hP.ext hx; replace hO := hO.extend hx; replace f8 := f8.ext hx; replace sN := sN.ext hx; replace sA := sA.ext hx; replace f10 := f6; clear hx hm6 hxa f6 hg10) | refine z1sz ?_ | (refine z22z ?_; have _t := tokA; intro v11 w11 B hB1 hB2 hx11 hn11; have e11 := hide_ (at_recs (me := me) (l := []) hn11); replace hP := hP.ext hx11; replace hO := hO.extend hx11; replace f8 := f8.ext hx11; replace sN := sN.ext hx11; replace sA := sA.ext hx11; replace f10 := f10.ext hx11; clear hn11 hB1 hB2 hx11 tokA _t) | (refine z22z ?_; intro v12 w12 B hB1 hB2 hx12 hn12; have e12 := hide_ (at_recs (me := me) (l := []) hn12); replace hP := hP.ext hx12; replace hO := hO.extend hx12; replace f8 := f8.ext hx12; replace sN := sN.ext hx12; replace sA := sA.ext hx12; replace f10 := f10.ext hx12; clear hn12 hB1 hB2 hx12) | (go_at_call 17; refine (FWant_any hP hok.out hI.out hq.out).mono ?_; rintro e w2 ⟨F1, rfl, hP2, hU⟩; have s0 := hU; replace sN := sN.updU s0; replace sA := sA.updU s0; replace f10 := f10.mod hU.mod hn10.out; have hn8b := hide_ (show ¬ F1 g8 from fun h => (hU.sub g8 h).elim hn8.out fun e => by have := f8.lt; omega); replace f8 := f8.mod hU.mod hn8.out; replace hP := hP2; replace hO := hO.upd hU; clear hP2 hU s0) | (go_at_call 19; refine (refWant_any ⟨vn, va, rfl, sN.sl, sA.sl⟩ hI.out hok.out.few hq.out).mono ?_; rintro e w3 ⟨cs2, rfl, hRF, hx⟩; obtain ⟨vn2, va2, rfl, i1, i2, n1, n2⟩ := RFn.open hRF; have hl8 : ∀ q, (F1 q ∨ q = g8) → q < _ := (fun q h => h.elim (hP.lt q) fun e => e ▸ f8.lt); have sN2 := n1.safe sN hx hl8 i1; have sA2 := n2.safe sA hx hl8 i2; have q1 := hide_ (Ints.one' i1); have q2 := hide_ (Ints.one' i2); replace hP := hP.ext hx; replace hO := hO.extend hx; replace f8 := f8.ext hx; replace f10 := f10.ext hx; clear sN sA i1 i2 n1 n2 hl8 hx hRF) | refine z46z ?_ | ((with_reducible refine at_store ?_); refine w_astore Try.stRF _ _ (us := [.int .i64 me, .int .i64 nd, vn2, va2]) rfl rfl rfl rfl rfl f8 rfl rfl (by intro u hu; simp at hu; rcases hu with rfl | rfl | rfl | rfl; rfl; rfl; exact q1.out; exact q2.out) ?_; intro w4 hm4 f8n; have sN := sN2.mod hm4 (fun q e => .inr e); have sA := sA2.mod hm4 (fun q e => .inr e); replace hP := hP.mod hm4 (fun q hq e => hn8b.out (e ▸ hq)); replace hO := hO.other hm4 (fun q e => e ▸ hW8.out); replace f8 := f8n; clear sN2 sA2 f8n hm4) | fail) <;> (try refine z0z ?_))
      refine zpz ?_; intro wd hxd; have F8 := f8.ext hxd; have HP := hP.ext hxd; have SN := sN.sl.ext hxd
      refine Ph.rest 0 17 (by kernel_rfl) ?_
      refine LinL.step (s := (.val (.bool q))) [(13, none)] rfl (by kernel_rfl) (op_out 13 (.bool q) rfl (.inl rfl) rfl) ?_
      refine LinL.step (s := (.val (.bool q))) [(14, none)] rfl (by kernel_rfl) (op_out 14 (.bool q) rfl (.inl rfl) rfl) ?_
      refine LinL.step (s := (.val (.bool false))) [(85, some 1), (86, some 0)] rfl (by kernel_rfl) (op_runs rfl fun σ w' hx hg => ⟨(.bool false), by have h85 : σ.tmps.getD 85 undef = .bool q := hg.1; have h86 : σ.tmps.getD 86 undef = .bool q := hg.2.1; unfold Runs execOp; simp [Act.eval, h85, h86, go_sem], rfl⟩) ?_
      refine zfz ?_
      refine LinL.step (s := (.sl (i64s ((Fe.want l d.n).map (·.nm))))) [(95, some 0), (94, some 1)] rfl (by kernel_rfl) (op_yes (reads := [(95, some 0)]) 9 94 1 false rfl rfl rfl (op_calls 25 #[(.tmp 95)] #[29] (fun σ => #[.pointer (some ⟨p, 0, none⟩)]) rfl rfl (fun _ _ => rfl) fun σ w' hx hg => ⟨by have h95 : σ.tmps.getD 95 undef = .pointer (some ⟨p, 0, none⟩) := hg.1; simp only [List.map_toArray, List.map_cons, List.map_nil, Act.eval, h95], retXs (FWantedH (HP.ext hx) hokN.out.few)⟩)) ?_
      refine z1ez ?_
      refine LinL.step (s := (.val (.bool true))) [(96, some 2), (98, some 0), (94, some 4)] rfl (by kernel_rfl) (op_yes (reads := [(96, some 2), (98, some 0)]) 9 94 4 false rfl rfl rfl (op_calls 24 #[(.tmp 96), (.tmp 98)] #[24, 24] (fun σ => #[σ.tmps.getD 96 undef, vn2]) rfl rfl (fun _ _ => rfl) fun σ w' hx hg => ⟨by have h98 : σ.tmps.getD 98 undef = vn2 := hg.2.1; simp only [List.map_toArray, List.map_cons, List.map_nil, Act.eval, h98], retF (SameInts_any _ _ ((Fe.want l d.n).map fun (x : WtD) => x.nm) w' hg.1 (SN.ext hx))⟩)) ?_
      refine zvz ?_
      intro wN hxN
      refine z3z ?_
      intro q96 hq96
      refine z0z ?_
      replace hP := hP.ext (hxd.trans hxN)
      replace hO := hO.extend (hxd.trans hxN)
      replace f8 := f8.ext (hxd.trans hxN)
      replace sN := sN.ext (hxd.trans hxN)
      replace sA := sA.ext (hxd.trans hxN)
      go_wp2
      go_roundw
      case rel => exact ⟨k + 1, F1, (Fe.want l d.n), vn2, va2, by go_num, hlt'.out, hokN.out, hP, hO, f8, sN, sA, hn8b.out⟩
      case measure => have := hlt'.out; simp [RowKit.intOf]; omega
    have c0 : (d.k == 0) = false := by simp [k0]
    by_cases k1 : d.k = 1
    · have c1 : (d.k == 1) = true := by simp [k1]
      have hokN := hide_ ((hok0.got d.n).mono (show k ≤ k + 1 by omega))
      clear k0 k1 hok0
      go_wp2_with ((first | (refine z3tz ?_; intro pa hrow0 _; have hrow := hide_ hrow0; clear hrow0) | refine z43z ?_ | (refine z4qz ?_; intro g10 w5 hg10 hxa f10) | (refine z3az ?_; refine w_astore Try.stFac _ _ (us := [.int .i64 d.k, .int .i64 d.n]) rfl rfl rfl rfl rfl f10 rfl rfl (by intro u hu; simp at hu; rcases hu with rfl | rfl <;> rfl) ?_; intro w6 hm6 f6; have hx := hm6.after hxa (fun i e => e ▸ hg10); have hn10 := hide_ (show ¬ F g10 from fun h => by have := hP.lt g10 h; omega); have h810 := hide_ (show ¬ g10 = g8 from fun e => by have := f8.lt; omega); replace hP := hP.ext hx; replace hO := hO.extend hx; replace f8 := f8.ext hx; replace sN := sN.ext hx; replace sA := sA.ext hx; replace f10 := f6; clear hx hm6 hxa f6 hg10) | refine z1sz ?_ | (refine z22z ?_; have _t := tokA; intro v11 w11 B hB1 hB2 hx11 hn11; have e11 := hide_ (at_recs (me := me) (l := []) hn11); replace hP := hP.ext hx11; replace hO := hO.extend hx11; replace f8 := f8.ext hx11; replace sN := sN.ext hx11; replace sA := sA.ext hx11; replace f10 := f10.ext hx11; clear hn11 hB1 hB2 hx11 tokA _t) | (refine z22z ?_; intro v12 w12 B hB1 hB2 hx12 hn12; have e12 := hide_ (at_recs (me := me) (l := []) hn12); replace hP := hP.ext hx12; replace hO := hO.extend hx12; replace f8 := f8.ext hx12; replace sN := sN.ext hx12; replace sA := sA.ext hx12; replace f10 := f10.ext hx12; clear hn12 hB1 hB2 hx12) | (go_at_call 20; refine (FGot_any (n := d.n) hP hok.out).mono ?_; rintro e w2 ⟨F1, rfl, hP2, hU⟩; have s0 := hU; replace sN := sN.updU s0; replace sA := sA.updU s0; replace f10 := f10.mod hU.mod hn10.out; have hn8b := hide_ (show ¬ F1 g8 from fun h => (hU.sub g8 h).elim hn8.out fun e => by have := f8.lt; omega); replace f8 := f8.mod hU.mod hn8.out; replace hP := hP2; replace hO := hO.upd hU; clear hP2 hU s0) | (go_at_call 21; refine (refGot_any (n := d.n) ⟨vn, va, rfl, sN.sl, sA.sl⟩ hok.out.few).mono ?_; rintro e w3 ⟨cs2, rfl, hRF, hx⟩; obtain ⟨vn2, va2, rfl, i1, i2, n1, n2⟩ := RFn.open hRF; have hl8 : ∀ q, (F1 q ∨ q = g8) → q < _ := (fun q h => h.elim (hP.lt q) fun e => e ▸ f8.lt); have sN2 := n1.safe sN hx hl8 i1; have sA2 := n2.safe sA hx hl8 i2; have q1 := hide_ (Ints.one' i1); have q2 := hide_ (Ints.one' i2); replace hP := hP.ext hx; replace hO := hO.extend hx; replace f8 := f8.ext hx; replace f10 := f10.ext hx; clear sN sA i1 i2 n1 n2 hl8 hx hRF) | refine z46z ?_ | ((with_reducible refine at_store ?_); refine w_astore Try.stRF _ _ (us := [.int .i64 me, .int .i64 nd, vn2, va2]) rfl rfl rfl rfl rfl f8 rfl rfl (by intro u hu; simp at hu; rcases hu with rfl | rfl | rfl | rfl; rfl; rfl; exact q1.out; exact q2.out) ?_; intro w4 hm4 f8n; have sN := sN2.mod hm4 (fun q e => .inr e); have sA := sA2.mod hm4 (fun q e => .inr e); replace hP := hP.mod hm4 (fun q hq e => hn8b.out (e ▸ hq)); replace hO := hO.other hm4 (fun q e => e ▸ hW8.out); replace f8 := f8n; clear sN2 sA2 f8n hm4) | fail) <;> (try refine z0z ?_))
      refine zpz ?_; intro wd hxd; have F8 := f8.ext hxd; have HP := hP.ext hxd; have SN := sN.sl.ext hxd
      refine z1cz ?_
      refine zfz ?_
      refine LinL.step (s := (.sl (i64s ((Fe.got l d.n).map (·.nm))))) [(95, some 0), (94, some 1)] rfl (by kernel_rfl) (op_yes (reads := [(95, some 0)]) 9 94 1 false rfl rfl rfl (op_calls 25 #[(.tmp 95)] #[29] (fun σ => #[.pointer (some ⟨p, 0, none⟩)]) rfl rfl (fun _ _ => rfl) fun σ w' hx hg => ⟨by have h95 : σ.tmps.getD 95 undef = .pointer (some ⟨p, 0, none⟩) := hg.1; simp only [List.map_toArray, List.map_cons, List.map_nil, Act.eval, h95], retXs (FWantedH (HP.ext hx) hokN.out.few)⟩)) ?_
      refine z1ez ?_
      refine LinL.step (s := (.val (.bool true))) [(96, some 2), (98, some 0), (94, some 4)] rfl (by kernel_rfl) (op_yes (reads := [(96, some 2), (98, some 0)]) 9 94 4 false rfl rfl rfl (op_calls 24 #[(.tmp 96), (.tmp 98)] #[24, 24] (fun σ => #[σ.tmps.getD 96 undef, vn2]) rfl rfl (fun _ _ => rfl) fun σ w' hx hg => ⟨by have h98 : σ.tmps.getD 98 undef = vn2 := hg.2.1; simp only [List.map_toArray, List.map_cons, List.map_nil, Act.eval, h98], retF (SameInts_any _ _ ((Fe.got l d.n).map fun (x : WtD) => x.nm) w' hg.1 (SN.ext hx))⟩)) ?_
      refine zvz ?_
      intro wN hxN
      refine z3z ?_
      intro q96 hq96
      refine z0z ?_
      replace hP := hP.ext (hxd.trans hxN)
      replace hO := hO.extend (hxd.trans hxN)
      replace f8 := f8.ext (hxd.trans hxN)
      replace sN := sN.ext (hxd.trans hxN)
      replace sA := sA.ext (hxd.trans hxN)
      go_wp2
      go_roundw
      case rel => exact ⟨k + 1, F1, (Fe.got l d.n), vn2, va2, by go_num, hlt'.out, hokN.out, hP, hO, f8, sN, sA, hn8b.out⟩
      case measure => have := hlt'.out; simp [RowKit.intOf]; omega
    have c1 : (d.k == 1) = false := by simp [k1]
    by_cases k2 : d.k = 2
    · have c2 : (d.k == 2) = true := by simp [k2]
      have hokN := hide_ (hok0.tick nd)
      clear k0 k1 k2 hok0
      go_wp2_with ((first | (refine z3tz ?_; intro pa hrow0 _; have hrow := hide_ hrow0; clear hrow0) | refine z43z ?_ | (refine z4qz ?_; intro g10 w5 hg10 hxa f10) | (refine z3az ?_; refine w_astore Try.stFac _ _ (us := [.int .i64 d.k, .int .i64 d.n]) rfl rfl rfl rfl rfl f10 rfl rfl (by intro u hu; simp at hu; rcases hu with rfl | rfl <;> rfl) ?_; intro w6 hm6 f6; have hx := hm6.after hxa (fun i e => e ▸ hg10); have hn10 := hide_ (show ¬ F g10 from fun h => by have := hP.lt g10 h; omega); have h810 := hide_ (show ¬ g10 = g8 from fun e => by have := f8.lt; omega); replace hP := hP.ext hx; replace hO := hO.extend hx; replace f8 := f8.ext hx; replace sN := sN.ext hx; replace sA := sA.ext hx; replace f10 := f6; clear hx hm6 hxa f6 hg10) | refine z1sz ?_ | (refine z22z ?_; have _t := tokA; intro v11 w11 B hB1 hB2 hx11 hn11; have e11 := hide_ (at_recs (me := me) (l := []) hn11); replace hP := hP.ext hx11; replace hO := hO.extend hx11; replace f8 := f8.ext hx11; replace sN := sN.ext hx11; replace sA := sA.ext hx11; replace f10 := f10.ext hx11; clear hn11 hB1 hB2 hx11 tokA _t) | (refine z22z ?_; intro v12 w12 B hB1 hB2 hx12 hn12; have e12 := hide_ (at_recs (me := me) (l := []) hn12); replace hP := hP.ext hx12; replace hO := hO.extend hx12; replace f8 := f8.ext hx12; replace sN := sN.ext hx12; replace sA := sA.ext hx12; replace f10 := f10.ext hx12; clear hn12 hB1 hB2 hx12) | (go_at_call 18; refine (FTick_any hP hok.out (by omega) hnd.out hme.out).mono ?_; rintro e w2 ⟨v4, rfl, hP2, hr40, hm⟩; have hr4 := hide_ (show RowN (fun q => ¬ q = g8) w2 59 14 v4 ((Fe.asks me nd l).map (askR me)) from hr40.mono fun q hq e => by have := f8.lt; omega); obtain ⟨F1, hF1⟩ : ∃ F1, F1 = F := ⟨_, rfl⟩; subst hF1; have hU : Upd F1 F1 _ w2 := ⟨hm, fun _ h => .inl h⟩; replace sN := sN.updU hU; replace sA := sA.updU hU; have hn8b := hide_ hn8.out; replace f8 := f8.mod hm hn8.out; replace hP := hP2; replace hO := hO.upd hU; clear hr40 hm hP2 hU f10) | (go_at_call 22; refine (refTick_any ⟨vn, va, rfl, sN.sl, sA.sl⟩ hok.out (by omega) hnd.out hme.out).mono ?_; rintro e w3 ⟨cs2, u5, rfl, hRF, hr50, hx⟩; replace hr4 := hide_ (hr4.out.ext hx); have hr5 := hide_ (show RowN (fun q => ¬ q = g8) w3 59 14 u5 ((Fe.asks me nd l).map (askR me)) from hr50.mono fun q hq e => by have := f8.lt; omega); obtain ⟨vn2, va2, rfl, i1, i2, n1, n2⟩ := RFn.open hRF; have hl8 : ∀ q, (F1 q ∨ q = g8) → q < _ := (fun q h => h.elim (hP.lt q) fun e => e ▸ f8.lt); have sN2 := n1.safe sN hx hl8 i1; have sA2 := n2.safe sA hx hl8 i2; have q1 := hide_ (Ints.one' i1); have q2 := hide_ (Ints.one' i2); replace hP := hP.ext hx; replace hO := hO.extend hx; replace f8 := f8.ext hx; clear sN sA i1 i2 n1 n2 hl8 hx hRF; clear hr50) | refine z46z ?_ | ((with_reducible refine at_store ?_); refine w_astore Try.stRF _ _ (us := [.int .i64 me, .int .i64 nd, vn2, va2]) rfl rfl rfl rfl rfl f8 rfl rfl (by intro u hu; simp at hu; rcases hu with rfl | rfl | rfl | rfl; rfl; rfl; exact q1.out; exact q2.out) ?_; intro w4 hm4 f8n; have sN := sN2.mod hm4 (fun q e => .inr e); have sA := sA2.mod hm4 (fun q e => .inr e); replace hP := hP.mod hm4 (fun q hq e => hn8b.out (e ▸ hq)); replace hO := hO.other hm4 (fun q e => e ▸ hW8.out); replace hr4 := hide_ (hr4.out.mod hm4 fun q hq e => hq e); replace hr5 := hide_ (hr5.out.mod hm4 fun q hq e => hq e); have e11 := hide_ (at_recs hr4.out); have e12 := hide_ (at_recs hr5.out); replace f8 := f8n; clear sN2 sA2 f8n; clear hm4 hr4 hr5) | fail) <;> (try refine z0z ?_))
      refine zpz ?_; intro wd hxd; have F8 := f8.ext hxd; have HP := hP.ext hxd; have SN := sN.sl.ext hxd
      refine z1cz ?_
      refine LinL.step (s := (.val (.bool false))) [(87, some 0)] rfl (by kernel_rfl) (op_copy 87 0 (.val (.bool false)) rfl (.inl rfl) rfl) ?_
      refine LinL.step (s := (.val (v4))) [(11, none), (88, some 0)] rfl (by kernel_rfl) (op_yes (reads := [(11, none)]) 3 88 0 false rfl rfl rfl (op_out 11 (v4) rfl (.inl rfl) rfl)) ?_
      refine LinL.step (s := (.val (u5))) [(12, none), (88, some 1)] rfl (by kernel_rfl) (op_yes (reads := [(12, none)]) 3 88 1 false rfl rfl rfl (op_out 12 (u5) rfl (.inl rfl) rfl)) ?_
      refine LinL.step (s := (.val (.bool true))) [(89, some 1), (90, some 0), (88, some 2)] rfl (by kernel_rfl) (op_yes (reads := [(89, some 1), (90, some 0)]) 3 88 2 false rfl rfl rfl (op_calls 23 #[(.tmp 89), (.tmp 90)] #[32, 32] (fun σ => #[v4, u5]) rfl rfl (fun _ _ => rfl) fun σ w' hx hg => ⟨by have h89 : σ.tmps.getD 89 undef = v4 := hg.1; have h90 : σ.tmps.getD 90 undef = u5 := hg.2.1; simp only [List.map_toArray, List.map_cons, List.map_nil, Act.eval, h89, h90], retF (SameActs_any (me := me) (A := (Fe.asks me nd l)) ((e11.out.ext (AtR.stays me) hxd).ext (AtR.stays me) hx) ((e12.out.ext (AtR.stays me) hxd).ext (AtR.stays me) hx))⟩)) ?_
      refine LinL.step (s := (.val (.bool false))) [(91, some 0), (88, some 3)] rfl (by kernel_rfl) (op_yes (reads := [(91, some 0)]) 3 88 3 false rfl rfl rfl (op_runs rfl fun σ w' hx hg => ⟨(.bool false), by have h91 : σ.tmps.getD 91 undef = .bool true := hg.1; unfold Runs execOp; simp [Act.eval, h91, go_sem], rfl⟩)) ?_
      refine LinL.step (s := (.val (.bool false))) [(88, some 4), (92, some 0)] rfl (by kernel_rfl) (op_runs rfl fun σ w' hx hg => ⟨_, runs_pick_f (ρ := σ.eval) (w := w') (.tmp 88) (.const (.bool true)) (.tmp 92) rfl hg.1 hg.2.1, rfl⟩) ?_
      refine LinL.step (s := (.val (.bool false))) [(93, some 0)] rfl (by kernel_rfl) (op_copy 93 0 (.val (.bool false)) rfl (.inl rfl) rfl) ?_
      refine LinL.step (s := (.val (.pointer (some ⟨p, 0, none⟩)))) [(7, none), (94, some 0)] rfl (by kernel_rfl) (op_yes (reads := [(7, none)]) 9 94 0 false rfl rfl rfl (op_out 7 (.pointer (some ⟨p, 0, none⟩)) rfl (.inl rfl) rfl)) ?_
      refine LinL.step (s := (.sl (i64s ((Fe.tick nd l).map (·.nm))))) [(95, some 0), (94, some 1)] rfl (by kernel_rfl) (op_yes (reads := [(95, some 0)]) 9 94 1 false rfl rfl rfl (op_calls 25 #[(.tmp 95)] #[29] (fun σ => #[.pointer (some ⟨p, 0, none⟩)]) rfl rfl (fun _ _ => rfl) fun σ w' hx hg => ⟨by have h95 : σ.tmps.getD 95 undef = .pointer (some ⟨p, 0, none⟩) := hg.1; simp only [List.map_toArray, List.map_cons, List.map_nil, Act.eval, h95], retXs (FWantedH (HP.ext hx) hokN.out.few)⟩)) ?_
      refine z1ez ?_
      refine LinL.step (s := (.val (.bool true))) [(96, some 2), (98, some 0), (94, some 4)] rfl (by kernel_rfl) (op_yes (reads := [(96, some 2), (98, some 0)]) 9 94 4 false rfl rfl rfl (op_calls 24 #[(.tmp 96), (.tmp 98)] #[24, 24] (fun σ => #[σ.tmps.getD 96 undef, vn2]) rfl rfl (fun _ _ => rfl) fun σ w' hx hg => ⟨by have h98 : σ.tmps.getD 98 undef = vn2 := hg.2.1; simp only [List.map_toArray, List.map_cons, List.map_nil, Act.eval, h98], retF (SameInts_any _ _ ((Fe.tick nd l).map fun (x : WtD) => x.nm) w' hg.1 (SN.ext hx))⟩)) ?_
      refine zvz ?_
      intro wN hxN
      refine z3z ?_
      intro q96 hq96
      refine z0z ?_
      replace hP := hP.ext (hxd.trans hxN)
      replace hO := hO.extend (hxd.trans hxN)
      replace f8 := f8.ext (hxd.trans hxN)
      replace sN := sN.ext (hxd.trans hxN)
      replace sA := sA.ext (hxd.trans hxN)
      go_wp2
      go_roundw
      case rel => exact ⟨k + 1, F1, (Fe.tick nd l), vn2, va2, by go_num, hlt'.out, hokN.out, hP, hO, f8, sN, sA, hn8b.out⟩
      case measure => have := hlt'.out; simp [RowKit.intOf]; omega
    · have c2 : (d.k == 2) = false := by simp [k2]
      have hokN := hide_ (hok0.mono (show k ≤ k + 1 by omega))
      clear k0 k1 k2 hok0
      go_wp2_with ((first | (refine z3tz ?_; intro pa hrow0 _; have hrow := hide_ hrow0; clear hrow0) | refine z43z ?_ | (refine z4qz ?_; intro g10 w5 hg10 hxa f10) | (refine z3az ?_; refine w_astore Try.stFac _ _ (us := [.int .i64 d.k, .int .i64 d.n]) rfl rfl rfl rfl rfl f10 rfl rfl (by intro u hu; simp at hu; rcases hu with rfl | rfl <;> rfl) ?_; intro w6 hm6 f6; have hx := hm6.after hxa (fun i e => e ▸ hg10); have hn10 := hide_ (show ¬ F g10 from fun h => by have := hP.lt g10 h; omega); have h810 := hide_ (show ¬ g10 = g8 from fun e => by have := f8.lt; omega); replace hP := hP.ext hx; replace hO := hO.extend hx; replace f8 := f8.ext hx; replace sN := sN.ext hx; replace sA := sA.ext hx; replace f10 := f6; clear hx hm6 hxa f6 hg10) | refine z1sz ?_ | (refine z22z ?_; have _t := tokA; intro v11 w11 B hB1 hB2 hx11 hn11; have e11 := hide_ (at_recs (me := me) (l := []) hn11); replace hP := hP.ext hx11; replace hO := hO.extend hx11; replace f8 := f8.ext hx11; replace sN := sN.ext hx11; replace sA := sA.ext hx11; replace f10 := f10.ext hx11; clear hn11 hB1 hB2 hx11 tokA _t) | (refine z22z ?_; intro v12 w12 B hB1 hB2 hx12 hn12; have e12 := hide_ (at_recs (me := me) (l := []) hn12); replace hP := hP.ext hx12; replace hO := hO.extend hx12; replace f8 := f8.ext hx12; replace sN := sN.ext hx12; replace sA := sA.ext hx12; replace f10 := f10.ext hx12; clear hn12 hB1 hB2 hx12) | fail) <;> (try refine z0z ?_))
      refine zpz ?_; intro wd hxd; have F8 := f8.ext hxd; have HP := hP.ext hxd; have SN := sN.sl.ext hxd
      refine z1cz ?_
      refine zfz ?_
      refine LinL.step (s := (.sl (i64s (l.map (·.nm))))) [(95, some 0), (94, some 1)] rfl (by kernel_rfl) (op_yes (reads := [(95, some 0)]) 9 94 1 false rfl rfl rfl (op_calls 25 #[(.tmp 95)] #[29] (fun σ => #[.pointer (some ⟨p, 0, none⟩)]) rfl rfl (fun _ _ => rfl) fun σ w' hx hg => ⟨by have h95 : σ.tmps.getD 95 undef = .pointer (some ⟨p, 0, none⟩) := hg.1; simp only [List.map_toArray, List.map_cons, List.map_nil, Act.eval, h95], retXs (FWantedH (HP.ext hx) hokN.out.few)⟩)) ?_
      refine LinL.step (s := (.val (.pointer (some ⟨g8, 2, none⟩)))) [(8, none), (94, some 2)] rfl (by kernel_rfl) (op_yes (reads := [(8, none)]) 9 94 2 false rfl rfl rfl (op_runs rfl fun σ w' hx hg => ⟨_, runs_field (ρ := σ.eval) (w := w') Try.stRF (.tmp 8) g8 2 rfl hg.1 (by omega), rfl⟩)) ?_
      refine LinL.step (s := (.val (vn))) [(97, some 0), (94, some 3)] rfl (by kernel_rfl) (op_yes (reads := [(97, some 0)]) 9 94 3 false rfl rfl rfl (op_runs rfl fun σ w' hx hg => ⟨_, runs_fload (ρ := σ.eval) (w := w') (.tmp 97) rfl hg.1 (agg_of (by kernel_rfl) _) (F8.ext hx) rfl, rfl⟩)) ?_
      refine LinL.step (s := (.val (.bool true))) [(96, some 2), (98, some 0), (94, some 4)] rfl (by kernel_rfl) (op_yes (reads := [(96, some 2), (98, some 0)]) 9 94 4 false rfl rfl rfl (op_calls 24 #[(.tmp 96), (.tmp 98)] #[24, 24] (fun σ => #[σ.tmps.getD 96 undef, vn]) rfl rfl (fun _ _ => rfl) fun σ w' hx hg => ⟨by have h98 : σ.tmps.getD 98 undef = vn := hg.2.1; simp only [List.map_toArray, List.map_cons, List.map_nil, Act.eval, h98], retF (SameInts_any _ _ (l.map fun (x : WtD) => x.nm) w' hg.1 (SN.ext hx))⟩)) ?_
      refine zvz ?_
      intro wN hxN
      refine z3z ?_
      intro q96 hq96
      refine z0z ?_
      replace hP := hP.ext (hxd.trans hxN)
      replace hO := hO.extend (hxd.trans hxN)
      replace f8 := f8.ext (hxd.trans hxN)
      replace sN := sN.ext (hxd.trans hxN)
      replace sA := sA.ext (hxd.trans hxN)
      go_wp2
      go_roundw
      case rel => exact ⟨k + 1, F, l, vn, va, by go_num, hlt'.out, hokN.out, hP, hO, f8, sN, sA, hn8.out⟩
      case measure => have := hlt'.out; simp [RowKit.intOf]; omega
theorem fetchRuns_lifted (os : Os) (started : os.Started) (H : Type) (enc : TypeId × Value → H) :
    ReturnsInHanded {} Try.checked os 5 .any (Rows.fetchRunsSpec.pre6 enc Try.prog Try.f5 Rows.fetchRunsRow.domain false) (Rows.fetchRunsSpec.post enc Try.prog Try.f5 false true false false) := by
  refine law_lifted (s := Rows.fetchRunsSpec) (conds := Rows.fetchRunsRow.domain) Try.func5 (by kernel_rfl) rfl (fun H ds h => by
      rw [show Try.f5.params.size = 3 from rfl] at h
      match ds, h with
      | [d0, d1, d2], _ => rfl) rfl rfl (by decide +kernel) os started H enc
    (ChangeSpec.witness6 (enc := enc) (C := Try.checked) false ⟨#[], #[.int .i64 0, .int .i64 0, .slice none 0 0], []⟩ 8 (by kernel_rfl) (by kernel_rfl) (by kernel_rfl) (by kernel_rfl)) ?_
  intro W base args ds p hval hA hsz _
  have hp : Try.f5.params.toList = [3, 3, 34] := rfl
  rw [hp] at hA hsz
  obtain ⟨v0, v1, v2, d0, d1, d2, p0, p1, p2, rfl, rfl, rfl, h0, h1, h2⟩ := trodAll_three hA
  obtain ⟨a0, rfl, b0, c0⟩ := arg_int (hval 0 3 v0 rfl rfl) h0
  obtain ⟨a1, rfl, b1, c1⟩ := arg_int (hval 1 3 v1 rfl rfl) h1
  obtain ⟨l2, a2⟩ := arg_Facs hsz (j := 2) rfl rfl (hval 2 34 v2 rfl rfl) h2
  exact fetchRuns_law a0 a1 _ l2 W a2
theorem fetchRuns_holds : Rows.FetchRunsSaid :=
  OpenClaim.holds_of_wide 5 Try.f5 rfl rfl rfl rfl rfl rfl rfl ⟨rfl, rfl, rfl, rfl, rfl⟩ rfl rfl rfl rfl rfl (by kernel_rfl) Try.func5 (by kernel_rfl)
    (of_decide_eq_true (by kernel_rfl)) (by unfold Func.isWrapper; first | (rw [if_pos (by decide +kernel)]; kernel_rfl) | (rw [if_neg (by decide +kernel)]; exact ⟨rfl, rfl⟩))
    (fun os started H enc _ => fetchRuns_lifted os started H enc)
#print axioms fetchRuns_holds
end Go.Proofs.Ytajkjiegcmpjaaa
