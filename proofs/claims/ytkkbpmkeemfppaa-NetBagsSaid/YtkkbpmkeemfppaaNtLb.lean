/- NetBags returns true: whatever is done with a bag, all that it answers, and all that is in it, is as the document says. No condition: any list of acts. -/
import Derived.Test.YtkkbpmkeemfppaaNtLa
import Derived.Test.YtkkbpmkeemfppaaNtAct
import Derived.Deep.Cut
namespace Go.Proofs.Ytkkbpmkeemfppaa
open Go.RowKit Go.ChangeShapes Go.WideShapes Go.ChangeAt

theorem at_getB {l : List Int} {j : Nat} {x : Int} (h : l[j]? = some x) : atB l (j : Int) = true ∧ atV l (j : Int) = x := by
  have hj := (List.getElem?_eq_some_iff.1 h).1
  have h1 : atB l (j : Int) = true := decide_eq_true (by omega)
  refine ⟨h1, ?_⟩
  unfold atV
  rw [h1, if_pos rfl]
  simp [h]
set_option maxRecDepth 100000 in
set_option maxHeartbeats 3200000 in
theorem netBags_law (va : Value) (acts : List NacD) (w : World) (ha0 : Recs 2 NacR w va acts) : Calls Try.prog 4 #[va] w fun e w' => e = .returned (.bool true) ∧ Ext w w' := by
  refine calls_keep ?_
  have hX := Ext.refl w
  have ha := hide_ ha0
  clear ha0
  go_enter Try.func4, Try.ntmps4
  go_upto_region 3 with (first
    | (go_at_call 12; refine (netAlive_any _).mono ?_; rintro e w4 ⟨rfl, hx⟩; replace hX := hX.trans hx; clear hx)
    | fail)
  by_cases hL : 200 < acts.length
  · have t1 : decide ((200 : Int) < (acts.length : Int)) = true := decide_eq_true (by omega)
    have t2 : decide (200 < acts.length) = true := decide_eq_true hL
    clear hL
    go_wp2_with ((first
      | ((with_reducible refine at_bi ?_); (try refine w_yes _ _ _ rfl rfl rfl ?_); refine w_rlen Try.elNac _ rfl rfl rfl (ha.out.ext NacR.stays hX) ?_)
      | fail) <;> (try simp only [Act.put, List.setIfInBounds_toArray, List.set_cons_zero, List.set_cons_succ]))
    go_ret
    exact Keep.intro ⟨rfl, hX⟩
  have t1 : decide ((200 : Int) < (acts.length : Int)) = false := decide_eq_false (by omega)
  have t2 : decide (200 < acts.length) = false := decide_eq_false hL
  have hal : acts.length ≤ 200 := by omega
  clear hL
  go_wp2_with ((first
    | ((with_reducible refine at_bi ?_); (try refine w_yes _ _ _ rfl rfl rfl ?_); refine w_rlen Try.elNac (.tmp 18) rfl rfl rfl (ha.out.ext NacR.stays hX) ?_)
    | (go_at_call 14; refine (BNew_any).mono ?_; rintro e w4 ⟨p, F, rfl, hB, hx, hF⟩; replace hB := hide_ (show Bg F w4 p [] from hB); have hO := hide_ (show Out w F w4 from ⟨hX.trans hx, fun k hk => Nat.le_trans hX.size (hF k hk)⟩); have hlt := hide_ hB.out.lt; clear hx hF hX)
    | ((with_reducible refine at_lit ?_); refine w_new Try.elI (i64s []) rfl rfl rfl (i64s_cells _) rfl (by omega) ?_; intro v1 w1 hx1 o1; replace o1 : OwnI _ w1 v1 [] := o1; have hS := hide_ (o1.safe hlt.out); replace hB := hide_ (hB.out.ext hx1); replace hO := hide_ (hO.out.extend hx1); clear hx1 o1 hlt)
    | ((with_reducible refine at_bi ?_); (try refine w_yes _ _ _ rfl rfl rfl ?_); refine w_rlen Try.elNac _ rfl rfl rfl (ha.out.ext NacR.stays hO.out.ext) ?_)
    | fail) <;> (try simp only [Act.put, List.setIfInBounds_toArray, List.set_cons_zero, List.set_cons_succ]))
  go_loopw [4, 25] (fun vl ix wr => ∃ (k : Nat) (F : Nat → Prop) (l : List Int), ix = .int .i64 k ∧ k ≤ acts.length ∧ Hid (Bg F wr p l) ∧ Hid (Out w F wr) ∧ Hid (Safe F wr vl (i64s l))) (fun _ ix _ => acts.length - (RowKit.intOf ix).toNat)
  case atStart => exact ⟨0, F, [], rfl, Nat.zero_le _, hB, hO, hS⟩
  case round =>
    clear hB hO hS F
    obtain ⟨k, F, l, rfl, hk, hB, hO, hS⟩ := hrel
    obtain ⟨vd, hvd⟩ : ∃ vd, vd = u4 := ⟨_, rfl⟩
    rw [← hvd] at hS
    subst hvd
    have hm0 := hB.out.few
    by_cases hge : acts.length ≤ k
    · obtain rfl : k = acts.length := by omega
      have t3 : decide (acts.length < acts.length) = false := by simp
      clear hge
      go_wp2_with ((first
        | ((with_reducible refine at_bi ?_); (try refine w_yes _ _ _ rfl rfl rfl ?_); refine i_len _ rfl rfl rfl (show Ints _ _ l from hS.out.sl) ?_)
        | fail) <;> (try simp only [Act.put, List.setIfInBounds_toArray, List.set_cons_zero, List.set_cons_succ]))
      go_loopw [115] (fun ix wr => ∃ (j : Nat) (F : Nat → Prop), ix = .int .i64 j ∧ j ≤ l.length ∧ Hid (Bg F wr p l) ∧ Hid (Out w F wr) ∧ Hid (Safe F wr vd (i64s l))) (fun ix _ => l.length - (RowKit.intOf ix).toNat)
      case atStart => exact ⟨0, F, rfl, Nat.zero_le _, hB, hO, hS⟩
      case round =>
        clear hB hO hS F
        obtain ⟨j, F, rfl, hj, hB, hO, hS⟩ := hrel
        by_cases hge : l.length ≤ j
        · obtain rfl : j = l.length := by omega
          have t4 : decide (l.length < l.length) = false := by simp
          clear hge
          go_wp2
          go_ret
          exact Keep.intro ⟨rfl, hO.out.ext⟩
        have hlt : j < l.length := by omega
        have t4 : decide (j < l.length) = true := decide_eq_true hlt
        have hlt' := hide_ hlt
        have hjb : j < 4000 := by omega
        obtain ⟨x, hx0⟩ : ∃ x, l[j]? = some x := ⟨_, List.getElem?_eq_getElem hlt⟩
        have hxx := hide_ (show l[j]'hlt'.out = x from (List.getElem?_eq_some_iff.1 hx0).2)
        have hq := hide_ (at_getB hx0).1
        have hv := hide_ (at_getB hx0).2
        have e1 : (x != x) = false := by simp
        clear hge hlt hx0 hj
        go_wp2_with ((first
          | go_big_skip
          | (go_at_call 21; refine (BAt_any hB.out hq.out hv.out).mono ?_; rintro e w7 ⟨rfl, F2, hU, c, v8, gs, ⟨hs, hB'⟩, hz⟩; replace hS := hide_ (hS.out.upd hU); replace hO := hide_ (hO.out.upd hU); replace hB := hide_ (show Bg F2 w7 p l from ⟨c, v8, gs, hs, hB'⟩); clear hB' hz hU)
          | ((with_reducible refine at_idx ?_); (try refine w_yes _ _ _ rfl rfl rfl ?_); refine i_idx _ _ j rfl rfl rfl (show Ints _ _ l from hS.out.sl) rfl hlt'.out ?_; intro ad had; rw [hxx.out] at had)
          | fail) <;> (try simp only [Act.put, List.setIfInBounds_toArray, List.set_cons_zero, List.set_cons_succ]))
        go_roundw
        case rel => exact ⟨j + 1, F2, by go_num, hlt'.out, hB, hO, hS⟩
        case measure => have := hlt'.out; simp [RowKit.intOf]; omega
    have hlt : k < acts.length := by omega
    have t3 : decide (k < acts.length) = true := decide_eq_true hlt
    have hlt' := hide_ hlt
    have hkb : k < 200 := by omega
    obtain ⟨d, hd0⟩ : ∃ d, acts[k]? = some d := ⟨_, List.getElem?_eq_getElem hlt⟩
    have hd := hide_ hd0
    have e0 : ((0 : Int) != 0) = false := rfl
    have e00 : (false != false) = false := rfl
    clear hge hlt hd0 hk
    have hways : d.k = 0 ∨ d.k = 1 ∨ d.k = 2 ∨ d.k = 3 ∨ (d.k ≠ 0 ∧ d.k ≠ 1 ∧ d.k ≠ 2 ∧ d.k ≠ 3) := by omega
    rcases hways with hk0 | hk1 | hk2 | hk3 | hk4
    · skip
      have c0 : (d.k == 0) = true := beq_iff_eq.2 (by omega)
      obtain ⟨q, hq0⟩ : ∃ q, decide (l.length < 4000) = q := ⟨_, rfl⟩
      have hq := hide_ hq0
      have e2 : (q != q) = false := by simp
      obtain ⟨l2, hl2⟩ : ∃ m, (if q = true then l ++ [d.n] else l) = m := ⟨_, rfl⟩
      clear hq0 hk0
      have c9 : ((l2.length : Int) != (l2.length : Int)) = false := by simp
      have c10 : (l2.length != l2.length) = false := by simp
      have hl2' := hide_ hl2
      clear hl2
      replace hl2 := hl2'
      clear hl2'
      go_wp2_with ((first
        | go_big_skip
        | ((with_reducible refine at_idx ?_); refine w_nacidx Try.elNac _ _ k rfl rfl rfl rfl ha.out hO.out.ext hd.out ?_; intro pa hrow0; have hrow := hide_ hrow0; clear hrow0)
        | ((with_reducible refine at_load ?_); refine w_pload Try.stNac _ rfl rfl rfl hrow.out rfl ?_)
        | ((with_reducible refine at_alloc ?_); refine w_alloc Try.stNac rfl rfl ?_; intro g10 w5 hg10 hxa f10)
        | ((with_reducible refine at_store ?_); refine w_astore Try.stNac _ _ (us := [.int .i64 d.k, .int .i64 d.n]) rfl rfl rfl rfl rfl f10 rfl rfl (by intro u hu; simp at hu; rcases hu with rfl | rfl <;> rfl) ?_; intro w6 hm6 f6; have hx := hm6.after hxa (fun i e => e ▸ hg10); have hn10 := hide_ (show ¬ F g10 from fun h => by have := hB.out.lt g10 h; omega); replace hB := hide_ (hB.out.ext hx); replace hO := hide_ (hO.out.extend hx); replace hS := hide_ (hS.out.ext hx); replace f10 := hide_ f6; clear hx hm6 hxa f6 hg10)
        | ((with_reducible refine at_field ?_); (try refine w_yes _ _ _ rfl rfl rfl ?_); refine w_field Try.stNac _ _ _ rfl rfl rfl (by omega) ?_)
        | ((with_reducible refine at_load ?_); (try refine w_yes _ _ _ rfl rfl rfl ?_); refine w_fload _ rfl rfl rfl f10.out rfl (agg_of (by kernel_rfl)) ?_)
        | (go_at_call 15; refine (BPut_any (x := d.n) hB.out hq.out).mono ?_; rintro e w7 ⟨rfl, hB2, hm⟩; rw [hl2.out] at hB2; have hU : Upd F F _ w7 := ⟨hm, fun _ h => .inl h⟩; clear hm; replace hS := hide_ (hS.out.upd hU); replace f10 := hide_ (f10.out.mod hU.mod hn10.out); replace hO := hide_ (hO.out.upd hU); replace hB := hide_ hB2; clear hB2 hU)
        | (go_at_call 16; refine (refPut_any (x := d.n) hS.out hB.out.lt hm0 hq.out).mono ?_; rintro e w8 ⟨v8, rfl, hx, hS2⟩; rw [hl2.out] at hS2; replace hB := hide_ (hB.out.ext hx); replace hO := hide_ (hO.out.extend hx); replace f10 := hide_ (f10.out.ext hx); replace hS := hide_ hS2; clear hS2 hx)
        | (go_at_call 22; refine (BLenN_any (z := (l2.length : Int)) hB.out rfl).mono ?_; rintro e w9 ⟨rfl, hx⟩; replace hB := hide_ (hB.out.ext hx); replace hO := hide_ (hO.out.extend hx); replace hS := hide_ (hS.out.ext hx); clear hx)
        | ((with_reducible refine at_bi ?_); (try refine w_yes _ _ _ rfl rfl rfl ?_); refine i_len _ rfl rfl rfl (show Ints _ _ l2 from hS.out.sl) ?_)
        | fail) <;> (try simp only [Act.put, List.setIfInBounds_toArray, List.set_cons_zero, List.set_cons_succ]))
      go_roundw
      case rel => exact ⟨k + 1, F, l2, by go_num, hlt'.out, hB, hO, hS⟩
      case measure => have := hlt'.out; simp [RowKit.intOf]; omega
    · skip
      have c0 : (d.k == 0) = false := beq_eq_false_iff_ne.2 (by omega)
      have c1 : (d.k == 1) = true := beq_iff_eq.2 (by omega)
      obtain ⟨q, hq0⟩ : ∃ q, atB l d.n = q := ⟨_, rfl⟩
      obtain ⟨x, hx0⟩ : ∃ x, atV l d.n = x := ⟨_, rfl⟩
      have hq := hide_ hq0
      have hv := hide_ hx0
      have e1 : (x != x) = false := by simp
      have e2 : (q != q) = false := by simp
      obtain ⟨l2, hl2⟩ : ∃ m, (if q = true then l.eraseIdx d.n.toNat else l) = m := ⟨_, rfl⟩
      clear hq0 hx0 hk1
      have c9 : ((l2.length : Int) != (l2.length : Int)) = false := by simp
      have c10 : (l2.length != l2.length) = false := by simp
      have hl2' := hide_ hl2
      clear hl2
      replace hl2 := hl2'
      clear hl2'
      go_wp2_with ((first
        | go_big_skip
        | ((with_reducible refine at_idx ?_); refine w_nacidx Try.elNac _ _ k rfl rfl rfl rfl ha.out hO.out.ext hd.out ?_; intro pa hrow0; have hrow := hide_ hrow0; clear hrow0)
        | ((with_reducible refine at_load ?_); refine w_pload Try.stNac _ rfl rfl rfl hrow.out rfl ?_)
        | ((with_reducible refine at_alloc ?_); refine w_alloc Try.stNac rfl rfl ?_; intro g10 w5 hg10 hxa f10)
        | ((with_reducible refine at_store ?_); refine w_astore Try.stNac _ _ (us := [.int .i64 d.k, .int .i64 d.n]) rfl rfl rfl rfl rfl f10 rfl rfl (by intro u hu; simp at hu; rcases hu with rfl | rfl <;> rfl) ?_; intro w6 hm6 f6; have hx := hm6.after hxa (fun i e => e ▸ hg10); have hn10 := hide_ (show ¬ F g10 from fun h => by have := hB.out.lt g10 h; omega); replace hB := hide_ (hB.out.ext hx); replace hO := hide_ (hO.out.extend hx); replace hS := hide_ (hS.out.ext hx); replace f10 := hide_ f6; clear hx hm6 hxa f6 hg10)
        | ((with_reducible refine at_field ?_); (try refine w_yes _ _ _ rfl rfl rfl ?_); refine w_field Try.stNac _ _ _ rfl rfl rfl (by omega) ?_)
        | ((with_reducible refine at_load ?_); (try refine w_yes _ _ _ rfl rfl rfl ?_); refine w_fload _ rfl rfl rfl f10.out rfl (agg_of (by kernel_rfl)) ?_)
        | (go_at_call 17; refine (BTake_any hB.out hq.out hv.out).mono ?_; rintro e w7 ⟨rfl, F2, hU, hB2⟩; rw [hl2.out] at hB2; replace hS := hide_ (hS.out.upd hU); replace f10 := hide_ (f10.out.mod hU.mod hn10.out); replace hO := hide_ (hO.out.upd hU); replace hB := hide_ hB2; clear hB2 hU)
        | (go_at_call 18; refine (refTake_any hS.out hB.out.lt hm0 hq.out hv.out).mono ?_; rintro e w8 ⟨v8, rfl, hx, hS2⟩; rw [hl2.out] at hS2; replace hB := hide_ (hB.out.ext hx); replace hO := hide_ (hO.out.extend hx); replace f10 := hide_ (f10.out.ext hx); replace hS := hide_ hS2; clear hS2 hx)
        | (go_at_call 22; refine (BLenN_any (z := (l2.length : Int)) hB.out rfl).mono ?_; rintro e w9 ⟨rfl, hx⟩; replace hB := hide_ (hB.out.ext hx); replace hO := hide_ (hO.out.extend hx); replace hS := hide_ (hS.out.ext hx); clear hx)
        | ((with_reducible refine at_bi ?_); (try refine w_yes _ _ _ rfl rfl rfl ?_); refine i_len _ rfl rfl rfl (show Ints _ _ l2 from hS.out.sl) ?_)
        | fail) <;> (try simp only [Act.put, List.setIfInBounds_toArray, List.set_cons_zero, List.set_cons_succ]))
      go_roundw
      case rel => exact ⟨k + 1, F2, l2, by go_num, hlt'.out, hB, hO, hS⟩
      case measure => have := hlt'.out; simp [RowKit.intOf]; omega
    · skip
      have c0 : (d.k == 0) = false := beq_eq_false_iff_ne.2 (by omega)
      have c1 : (d.k == 1) = false := beq_eq_false_iff_ne.2 (by omega)
      have c2 : (d.k == 2) = true := beq_iff_eq.2 (by omega)
      obtain ⟨q, hq0⟩ : ∃ q, atB l d.n = q := ⟨_, rfl⟩
      obtain ⟨x, hx0⟩ : ∃ x, atV l d.n = x := ⟨_, rfl⟩
      have hq := hide_ hq0
      have hv := hide_ hx0
      have e1 : (x != x) = false := by simp
      have e2 : (q != q) = false := by simp
      cases q
      · clear e2
        have hr := hide_ (show (false && decide (l.length < 4000)) = false from rfl)
        clear hq0 hx0 hk2
        obtain ⟨l2, hl2⟩ : ∃ m, l = m := ⟨_, rfl⟩
        have c9 : ((l2.length : Int) != (l2.length : Int)) = false := by simp
        have c10 : (l2.length != l2.length) = false := by simp
        have hl2' := hide_ hl2
        clear hl2
        replace hl2 := hl2'
        clear hl2'
        go_wp2_with ((first
          | go_big_skip
          | ((with_reducible refine at_idx ?_); refine w_nacidx Try.elNac _ _ k rfl rfl rfl rfl ha.out hO.out.ext hd.out ?_; intro pa hrow0; have hrow := hide_ hrow0; clear hrow0)
          | ((with_reducible refine at_load ?_); refine w_pload Try.stNac _ rfl rfl rfl hrow.out rfl ?_)
          | ((with_reducible refine at_alloc ?_); refine w_alloc Try.stNac rfl rfl ?_; intro g10 w5 hg10 hxa f10)
          | ((with_reducible refine at_store ?_); refine w_astore Try.stNac _ _ (us := [.int .i64 d.k, .int .i64 d.n]) rfl rfl rfl rfl rfl f10 rfl rfl (by intro u hu; simp at hu; rcases hu with rfl | rfl <;> rfl) ?_; intro w6 hm6 f6; have hx := hm6.after hxa (fun i e => e ▸ hg10); have hn10 := hide_ (show ¬ F g10 from fun h => by have := hB.out.lt g10 h; omega); replace hB := hide_ (hB.out.ext hx); replace hO := hide_ (hO.out.extend hx); replace hS := hide_ (hS.out.ext hx); replace f10 := hide_ f6; clear hx hm6 hxa f6 hg10)
          | ((with_reducible refine at_field ?_); (try refine w_yes _ _ _ rfl rfl rfl ?_); refine w_field Try.stNac _ _ _ rfl rfl rfl (by omega) ?_)
          | ((with_reducible refine at_load ?_); (try refine w_yes _ _ _ rfl rfl rfl ?_); refine w_fload _ rfl rfl rfl f10.out rfl (agg_of (by kernel_rfl)) ?_)
          | (go_at_call 19; refine (BDouble_any hB.out hq.out hv.out hr.out).mono ?_; rintro e w7 ⟨rfl, F2, hU, hB2⟩; rw [if_neg (by decide), hl2.out] at hB2; replace hS := hide_ (hS.out.upd hU); replace f10 := hide_ (f10.out.mod hU.mod hn10.out); replace hO := hide_ (hO.out.upd hU); replace hB := hide_ hB2; clear hB2 hU)
          | (go_at_call 20; refine (refAt_any (show Ints _ _ l from hS.out.sl) hq.out hv.out).mono ?_; rintro e w8 ⟨rfl, hx⟩; replace hB := hide_ (hB.out.ext hx); replace hO := hide_ (hO.out.extend hx); replace f10 := hide_ (f10.out.ext hx); replace hS := hide_ (hS.out.ext hx); clear hx; rw [hl2.out] at hS)
          | (go_at_call 22; refine (BLenN_any (z := (l2.length : Int)) hB.out rfl).mono ?_; rintro e w9 ⟨rfl, hx⟩; replace hB := hide_ (hB.out.ext hx); replace hO := hide_ (hO.out.extend hx); replace hS := hide_ (hS.out.ext hx); clear hx)
          | ((with_reducible refine at_bi ?_); (try refine w_yes _ _ _ rfl rfl rfl ?_); refine i_len _ rfl rfl rfl (show Ints _ _ l2 from hS.out.sl) ?_)
          | fail) <;> (try simp only [Act.put, List.setIfInBounds_toArray, List.set_cons_zero, List.set_cons_succ]))
        go_roundw
        case rel => exact ⟨k + 1, F2, l2, by go_num, hlt'.out, hB, hO, hS⟩
        case measure => have := hlt'.out; simp [RowKit.intOf]; omega
      · clear e2
        obtain ⟨r, hr0⟩ : ∃ r, decide (l.length < 4000) = r := ⟨_, rfl⟩
        have hr := hide_ (show (true && decide (l.length < 4000)) = r from hr0)
        have hr2 := hide_ hr0
        have e2 : (r != r) = false := by simp
        clear hq0 hx0 hk2 hr0
        obtain ⟨l2, hl2⟩ : ∃ m, (if r = true then l ++ [x] else l) = m := ⟨_, rfl⟩
        have c9 : ((l2.length : Int) != (l2.length : Int)) = false := by simp
        have c10 : (l2.length != l2.length) = false := by simp
        have hl2' := hide_ hl2
        clear hl2
        replace hl2 := hl2'
        clear hl2'
        go_wp2_with ((first
          | go_big_skip
          | ((with_reducible refine at_idx ?_); refine w_nacidx Try.elNac _ _ k rfl rfl rfl rfl ha.out hO.out.ext hd.out ?_; intro pa hrow0; have hrow := hide_ hrow0; clear hrow0)
          | ((with_reducible refine at_load ?_); refine w_pload Try.stNac _ rfl rfl rfl hrow.out rfl ?_)
          | ((with_reducible refine at_alloc ?_); refine w_alloc Try.stNac rfl rfl ?_; intro g10 w5 hg10 hxa f10)
          | ((with_reducible refine at_store ?_); refine w_astore Try.stNac _ _ (us := [.int .i64 d.k, .int .i64 d.n]) rfl rfl rfl rfl rfl f10 rfl rfl (by intro u hu; simp at hu; rcases hu with rfl | rfl <;> rfl) ?_; intro w6 hm6 f6; have hx := hm6.after hxa (fun i e => e ▸ hg10); have hn10 := hide_ (show ¬ F g10 from fun h => by have := hB.out.lt g10 h; omega); replace hB := hide_ (hB.out.ext hx); replace hO := hide_ (hO.out.extend hx); replace hS := hide_ (hS.out.ext hx); replace f10 := hide_ f6; clear hx hm6 hxa f6 hg10)
          | ((with_reducible refine at_field ?_); (try refine w_yes _ _ _ rfl rfl rfl ?_); refine w_field Try.stNac _ _ _ rfl rfl rfl (by omega) ?_)
          | ((with_reducible refine at_load ?_); (try refine w_yes _ _ _ rfl rfl rfl ?_); refine w_fload _ rfl rfl rfl f10.out rfl (agg_of (by kernel_rfl)) ?_)
          | (go_at_call 19; refine (BDouble_any hB.out hq.out hv.out hr.out).mono ?_; rintro e w7 ⟨rfl, F2, hU, hB2⟩; rw [hl2.out] at hB2; replace hS := hide_ (hS.out.upd hU); replace f10 := hide_ (f10.out.mod hU.mod hn10.out); replace hO := hide_ (hO.out.upd hU); replace hB := hide_ hB2; clear hB2 hU)
          | (go_at_call 20; refine (refAt_any (show Ints _ _ l from hS.out.sl) hq.out hv.out).mono ?_; rintro e w8 ⟨rfl, hx⟩; replace hB := hide_ (hB.out.ext hx); replace hO := hide_ (hO.out.extend hx); replace f10 := hide_ (f10.out.ext hx); replace hS := hide_ (hS.out.ext hx); clear hx)
          | (go_at_call 16; refine (refPut_any (x := x) hS.out hB.out.lt hm0 hr2.out).mono ?_; rintro e w8 ⟨v8, rfl, hx, hS2⟩; rw [hl2.out] at hS2; replace hB := hide_ (hB.out.ext hx); replace hO := hide_ (hO.out.extend hx); replace f10 := hide_ (f10.out.ext hx); replace hS := hide_ hS2; clear hS2 hx)
          | (go_at_call 22; refine (BLenN_any (z := (l2.length : Int)) hB.out rfl).mono ?_; rintro e w9 ⟨rfl, hx⟩; replace hB := hide_ (hB.out.ext hx); replace hO := hide_ (hO.out.extend hx); replace hS := hide_ (hS.out.ext hx); clear hx)
          | ((with_reducible refine at_bi ?_); (try refine w_yes _ _ _ rfl rfl rfl ?_); refine i_len _ rfl rfl rfl (show Ints _ _ l2 from hS.out.sl) ?_)
          | fail) <;> (try simp only [Act.put, List.setIfInBounds_toArray, List.set_cons_zero, List.set_cons_succ]))
        go_roundw
        case rel => exact ⟨k + 1, F2, l2, by go_num, hlt'.out, hB, hO, hS⟩
        case measure => have := hlt'.out; simp [RowKit.intOf]; omega
    · skip
      have c0 : (d.k == 0) = false := beq_eq_false_iff_ne.2 (by omega)
      have c1 : (d.k == 1) = false := beq_eq_false_iff_ne.2 (by omega)
      have c2 : (d.k == 2) = false := beq_eq_false_iff_ne.2 (by omega)
      have c3 : (d.k == 3) = true := beq_iff_eq.2 (by omega)
      obtain ⟨q, hq0⟩ : ∃ q, atB l d.n = q := ⟨_, rfl⟩
      obtain ⟨x, hx0⟩ : ∃ x, atV l d.n = x := ⟨_, rfl⟩
      have hq := hide_ hq0
      have hv := hide_ hx0
      have e1 : (x != x) = false := by simp
      have e2 : (q != q) = false := by simp
      obtain ⟨l2, hl2⟩ : ∃ m, (l) = m := ⟨_, rfl⟩
      clear hq0 hx0 hk3
      have c9 : ((l2.length : Int) != (l2.length : Int)) = false := by simp
      have c10 : (l2.length != l2.length) = false := by simp
      have hl2' := hide_ hl2
      clear hl2
      replace hl2 := hl2'
      clear hl2'
      go_wp2_with ((first
        | go_big_skip
        | ((with_reducible refine at_idx ?_); refine w_nacidx Try.elNac _ _ k rfl rfl rfl rfl ha.out hO.out.ext hd.out ?_; intro pa hrow0; have hrow := hide_ hrow0; clear hrow0)
        | ((with_reducible refine at_load ?_); refine w_pload Try.stNac _ rfl rfl rfl hrow.out rfl ?_)
        | ((with_reducible refine at_alloc ?_); refine w_alloc Try.stNac rfl rfl ?_; intro g10 w5 hg10 hxa f10)
        | ((with_reducible refine at_store ?_); refine w_astore Try.stNac _ _ (us := [.int .i64 d.k, .int .i64 d.n]) rfl rfl rfl rfl rfl f10 rfl rfl (by intro u hu; simp at hu; rcases hu with rfl | rfl <;> rfl) ?_; intro w6 hm6 f6; have hx := hm6.after hxa (fun i e => e ▸ hg10); have hn10 := hide_ (show ¬ F g10 from fun h => by have := hB.out.lt g10 h; omega); replace hB := hide_ (hB.out.ext hx); replace hO := hide_ (hO.out.extend hx); replace hS := hide_ (hS.out.ext hx); replace f10 := hide_ f6; clear hx hm6 hxa f6 hg10)
        | ((with_reducible refine at_field ?_); (try refine w_yes _ _ _ rfl rfl rfl ?_); refine w_field Try.stNac _ _ _ rfl rfl rfl (by omega) ?_)
        | ((with_reducible refine at_load ?_); (try refine w_yes _ _ _ rfl rfl rfl ?_); refine w_fload _ rfl rfl rfl f10.out rfl (agg_of (by kernel_rfl)) ?_)
        | (go_at_call 21; refine (BAt_any hB.out hq.out hv.out).mono ?_; rintro e w7 ⟨rfl, F2, hU, c, v8, gs, ⟨hs, hB'⟩, hz⟩; have hB2 := (show Bg F2 w7 p l from ⟨c, v8, gs, hs, hB'⟩); rw [hl2.out] at hB2; clear hB' hz; replace hS := hide_ (hS.out.upd hU); replace f10 := hide_ (f10.out.mod hU.mod hn10.out); replace hO := hide_ (hO.out.upd hU); replace hB := hide_ hB2; clear hB2 hU)
        | (go_at_call 20; refine (refAt_any (show Ints _ _ l from hS.out.sl) hq.out hv.out).mono ?_; rintro e w8 ⟨rfl, hx⟩; replace hB := hide_ (hB.out.ext hx); replace hO := hide_ (hO.out.extend hx); replace f10 := hide_ (f10.out.ext hx); replace hS := hide_ (hS.out.ext hx); clear hx; rw [hl2.out] at hS)
        | (go_at_call 22; refine (BLenN_any (z := (l2.length : Int)) hB.out rfl).mono ?_; rintro e w9 ⟨rfl, hx⟩; replace hB := hide_ (hB.out.ext hx); replace hO := hide_ (hO.out.extend hx); replace hS := hide_ (hS.out.ext hx); clear hx)
        | ((with_reducible refine at_bi ?_); (try refine w_yes _ _ _ rfl rfl rfl ?_); refine i_len _ rfl rfl rfl (show Ints _ _ l2 from hS.out.sl) ?_)
        | fail) <;> (try simp only [Act.put, List.setIfInBounds_toArray, List.set_cons_zero, List.set_cons_succ]))
      go_roundw
      case rel => exact ⟨k + 1, F2, l2, by go_num, hlt'.out, hB, hO, hS⟩
      case measure => have := hlt'.out; simp [RowKit.intOf]; omega
    · skip
      have c0 : (d.k == 0) = false := beq_eq_false_iff_ne.2 (by omega)
      have c1 : (d.k == 1) = false := beq_eq_false_iff_ne.2 (by omega)
      have c2 : (d.k == 2) = false := beq_eq_false_iff_ne.2 (by omega)
      have c3 : (d.k == 3) = false := beq_eq_false_iff_ne.2 (by omega)
      obtain ⟨l2, hl2⟩ : ∃ m, (l) = m := ⟨_, rfl⟩
      clear hk4
      rw [hl2] at hB hS
      have c9 : ((l2.length : Int) != (l2.length : Int)) = false := by simp
      have c10 : (l2.length != l2.length) = false := by simp
      have hl2' := hide_ hl2
      clear hl2
      replace hl2 := hl2'
      clear hl2'
      go_wp2_with ((first
        | go_big_skip
        | ((with_reducible refine at_idx ?_); refine w_nacidx Try.elNac _ _ k rfl rfl rfl rfl ha.out hO.out.ext hd.out ?_; intro pa hrow0; have hrow := hide_ hrow0; clear hrow0)
        | ((with_reducible refine at_load ?_); refine w_pload Try.stNac _ rfl rfl rfl hrow.out rfl ?_)
        | ((with_reducible refine at_alloc ?_); refine w_alloc Try.stNac rfl rfl ?_; intro g10 w5 hg10 hxa f10)
        | ((with_reducible refine at_store ?_); refine w_astore Try.stNac _ _ (us := [.int .i64 d.k, .int .i64 d.n]) rfl rfl rfl rfl rfl f10 rfl rfl (by intro u hu; simp at hu; rcases hu with rfl | rfl <;> rfl) ?_; intro w6 hm6 f6; have hx := hm6.after hxa (fun i e => e ▸ hg10); have hn10 := hide_ (show ¬ F g10 from fun h => by have := hB.out.lt g10 h; omega); replace hB := hide_ (hB.out.ext hx); replace hO := hide_ (hO.out.extend hx); replace hS := hide_ (hS.out.ext hx); replace f10 := hide_ f6; clear hx hm6 hxa f6 hg10)
        | ((with_reducible refine at_field ?_); (try refine w_yes _ _ _ rfl rfl rfl ?_); refine w_field Try.stNac _ _ _ rfl rfl rfl (by omega) ?_)
        | ((with_reducible refine at_load ?_); (try refine w_yes _ _ _ rfl rfl rfl ?_); refine w_fload _ rfl rfl rfl f10.out rfl (agg_of (by kernel_rfl)) ?_)
        | (go_at_call 22; refine (BLenN_any (z := (l2.length : Int)) hB.out rfl).mono ?_; rintro e w9 ⟨rfl, hx⟩; replace hB := hide_ (hB.out.ext hx); replace hO := hide_ (hO.out.extend hx); replace hS := hide_ (hS.out.ext hx); clear hx)
        | ((with_reducible refine at_bi ?_); (try refine w_yes _ _ _ rfl rfl rfl ?_); refine i_len _ rfl rfl rfl (show Ints _ _ l2 from hS.out.sl) ?_)
        | fail) <;> (try simp only [Act.put, List.setIfInBounds_toArray, List.set_cons_zero, List.set_cons_succ]))
      go_roundw
      case rel => exact ⟨k + 1, F, l2, by go_num, hlt'.out, hB, hO, hS⟩
      case measure => have := hlt'.out; simp [RowKit.intOf]; omega

set_option maxRecDepth 100000 in
theorem netBags_lifted (os : Os) (started : os.Started) (H : Type) (enc : TypeId × Value → H) :
    ReturnsInHanded {} Try.checked os 4 .any (Rows.netBagsSpec.pre6 enc Try.prog Try.f4 Rows.netBagsRow.domain false) (Rows.netBagsSpec.post enc Try.prog Try.f4 false true false false) := by
  refine law_lifted (s := Rows.netBagsSpec) (conds := Rows.netBagsRow.domain) Try.func4 (by kernel_rfl) rfl (fun H ds h => by
      rw [show Try.f4.params.size = 1 from rfl] at h
      match ds, h with
      | [d0], _ => rfl) rfl rfl (by decide +kernel) os started H enc
    (ChangeSpec.witness6 (enc := enc) (C := Try.checked) false ⟨#[], #[.slice none 0 0], []⟩ 8 (by kernel_rfl) (by kernel_rfl) (by kernel_rfl) (by kernel_rfl)) ?_
  intro W base args ds p hval hA hsz _
  have hp : Try.f4.params.toList = [30] := rfl
  rw [hp] at hA hsz
  obtain ⟨v0, d0, rfl, rfl, h0⟩ := trodAll_one hA
  obtain ⟨l0, k0⟩ := arg_Nacs hsz (j := 0) rfl rfl (hval 0 30 v0 rfl rfl) h0
  exact netBags_law v0 l0 W k0

theorem netBags_holds : Rows.NetBagsSaid :=
  OpenClaim.holds_of_wide 4 Try.f4 rfl rfl rfl rfl rfl rfl rfl ⟨rfl, rfl, rfl, rfl, rfl⟩ rfl rfl rfl rfl rfl (by kernel_rfl) Try.func4 (by kernel_rfl)
    (of_decide_eq_true (by kernel_rfl)) (by unfold Func.isWrapper; first | (rw [if_pos (by decide +kernel)]; kernel_rfl) | (rw [if_neg (by decide +kernel)]; exact ⟨rfl, rfl⟩))
    (fun os started H enc _ => netBags_lifted os started H enc)
#print axioms netBags_holds

end Go.Proofs.Ytkkbpmkeemfppaa
