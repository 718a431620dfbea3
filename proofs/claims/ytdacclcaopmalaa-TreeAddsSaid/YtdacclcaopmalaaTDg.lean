/- The document's tree of blocks: its names, ways and heights. -/
import Derived.Test.YtdacclcaopmalaaTDf
namespace Go.Proofs.Ytdacclcaopmalaa
set_option maxRecDepth 100000
open Go.RowKit Go.ChangeShapes Go.WideShapes Go.ChangeAt

set_option maxRecDepth 100000 in
set_option maxHeartbeats 1600000 in
theorem refNames_any {w : World} {vk vw : Value} {K : List BlkD} (hK0 : Recs 5 BlkR w vk K) (hlen : K.length ≤ 400) :
    Calls Try.prog 39 #[.agg #[vk, vw]] w fun e w' => ∃ v', e = .returned v' ∧ Ints w' v' (TrS.names K) ∧ Ext w w' := by
  refine calls_keep ?_
  have hK := hide_ hK0
  clear hK0
  go_enter Try.func39, Try.ntmps39
  go_wp2_with ((first
    | ((with_reducible refine at_box ?_); refine w_box _ [vk, vw] rfl rfl rfl rfl ?_; intro g1 w1 hg1 hX f1)
    | ((with_reducible refine at_lit ?_); refine w_new Try.elI (i64s []) rfl rfl rfl (i64s_cells _) rfl (by omega) ?_; intro v3 w5 hx3 o3; replace o3 : OwnI _ w5 v3 [] := o3; have j3 := o3.ints; replace f1 := f1.ext hx3; replace hX := hX.trans hx3; clear hx3 o3)
    | ((with_reducible refine at_field ?_); (try refine w_yes _ _ _ rfl rfl rfl ?_); refine w_field Try.stDoc _ _ _ rfl rfl rfl (by omega) ?_)
    | ((with_reducible refine at_load ?_); (try refine w_yes _ _ _ rfl rfl rfl ?_); refine w_fload _ rfl rfl rfl f1 rfl (agg_of (by kernel_rfl)) ?_)
    | ((with_reducible refine at_bi ?_); refine w_rlen Try.enBlk.elS _ rfl rfl rfl (hK.out.ext BlkR.stays hX) ?_)
    | fail) <;> (try simp only [Act.put, List.setIfInBounds_toArray, List.set_cons_zero, List.set_cons_succ]))
  go_loopw [3, 10] (fun u3 i wr => ∃ (k : Nat) (l : List Int), i = .int .i64 k ∧ k ≤ K.length ∧ rise ((K.take k).map BlkD.name) = l ∧ Ints wr u3 l ∧ Ext w wr) (fun _ i _ => K.length - (RowKit.intOf i).toNat)
  case atStart => exact ⟨0, [], rfl, Nat.zero_le _, rfl, j3, hX⟩
  case round =>
    clear hX j3 f1
    obtain ⟨k, l, rfl, hk, hl, ho, hX⟩ := hrel
    by_cases hge : K.length ≤ k
    · obtain rfl : k = K.length := by omega
      have t2 : decide (K.length < K.length) = false := by simp
      rw [List.take_length] at hl
      have e := hide_ (show TrS.names K = l from hl)
      replace ho := hide_ ho
      clear hl hge
      go_wp2
      go_ret
      exact Keep.intro ⟨_, rfl, by rw [e.out]; exact ho.out, hX⟩
    have hlt : k < K.length := by omega
    have t2 : decide (k < K.length) = true := by simpa using hlt
    obtain ⟨d, hd0⟩ : ∃ d, K[k]? = some d := ⟨_, List.getElem?_eq_getElem hlt⟩
    have hlt' := hide_ hlt
    have hd := hide_ hd0
    have hR := hide_ (show Rise l by rw [← hl]; exact rise_rise _)
    have hl400 := hide_ (show l.length ≤ 400 by
      rw [← hl]
      have := rise_len_le ((K.take k).map BlkD.name)
      rw [List.length_map, List.length_take] at this; omega)
    have he := hide_ (show rise ((K.take (k + 1)).map BlkD.name) = ins l d.name by rw [List.take_add_one, hd0, List.map_append, ← hl]; exact rise_snoc)
    clear hge hlt hd0 hl
    go_wp2_with ((first
      | (go_at_call 35; refine (refBName_any (b := d) (hu.out.ext TxR.stays hX) hraw.out.parent).mono ?_; rintro e w4 ⟨rfl, hx⟩; replace ho := ho.ext hx; replace hX := hX.trans hx; clear hx f2)
      | (go_at_call 62; refine (refInsert_any (n := d.name) ho hR.out hl400.out).mono ?_; rintro e w4 ⟨v17, rfl, o17, hx⟩; replace hX := hX.trans hx; clear ho; have ho := o17.ints; clear hx o17)
      | ((with_reducible refine at_idx ?_); refine w_didx Try.enBlk.elS _ _ k rfl rfl rfl rfl hK.out hX hd.out ?_; intro pa u hrow hu hraw; have hone := blk_one (a := d.slot) (b := d.miner) (c := d.var) (d := d.parent) hu.one'; replace hrow := hide_ hrow; replace hraw := hide_ hraw; replace hu := hide_ hu)
      | ((with_reducible refine at_load ?_); refine w_pload Try.stBlk _ rfl rfl rfl hrow.out rfl ?_)
      | ((with_reducible refine at_alloc ?_); refine w_alloc Try.stBlk rfl rfl ?_; intro g2 w2 hg2 hx2 f2)
      | ((with_reducible refine at_store ?_); refine w_astore Try.stBlk _ _ (us := bRow d u) rfl rfl rfl rfl rfl f2 rfl rfl hone ?_; intro w3 hm3 f3; replace f2 : Fs w3 g2 (bRow d u) := f3; replace hx2 := hm3.after hx2 (fun i hi => by subst hi; exact hg2); replace hX := hX.trans hx2; replace ho := ho.ext hx2; clear hm3 f3 hx2 hrow)
      | ((with_reducible refine at_load ?_); refine w_aload Try.stBlk _ rfl rfl rfl f2 rfl ?_)
      | fail) <;> (try simp only [Act.put, List.setIfInBounds_toArray, List.set_cons_zero, List.set_cons_succ]))
    go_roundw
    case rel => exact ⟨k + 1, _, by go_num, hlt'.out, he.out, ho, hX⟩
    case measure => have := hlt'.out; simp [RowKit.intOf]; omega

set_option maxRecDepth 100000 in
set_option maxHeartbeats 1600000 in
theorem refPath_lt {vk vw : Value} {K : List BlkD} (hU : TrS.Uq K) : ∀ (m : Nat) (n : Int) (w : World), Recs 5 BlkR w vk K → (∀ b, TrS.get K n = some b → b.slot < (m : Int)) →
    Calls Try.prog 79 #[.agg #[vk, vw], .int .i64 n] w fun e w' => ∃ v', e = .returned v' ∧ OwnI w.heap.size w' v' (TrS.path K n) ∧ Ext w w' := by
  intro m
  induction m with
  | zero =>
    intro n w hK0 hm
    have hg : TrS.get K n = none := by
      cases hg : TrS.get K n with
      | none => rfl
      | some b => have h1 := hm b hg; have h2 := (hU.right b (TrS.get_some hg).1).s.1; omega
    have e1 := hide_ (TrS.path_none hg)
    have e2 := hide_ (show TrS.has K n = false by rw [← get_has, hg]; rfl)
    have hK := hide_ hK0
    clear hK0 hg hm
    refine calls_keep ?_
    go_enter Try.func79, Try.ntmps79
    go_wp2_with ((first
      | ((with_reducible refine at_box ?_); refine w_box _ [vk, vw] rfl rfl rfl rfl ?_; intro g1 w1 hg1 hX f1)
      | (go_at_call 36; refine (refGet_any (vw := vw) (n := n) (hK.out.ext BlkR.stays hX)).mono ?_; rintro e w4 ⟨u11, rfl, hu11, hr11, hx⟩; rw [e2.out]; have hone11 := blk_one (a := (getOr K n).slot) (b := (getOr K n).miner) (c := (getOr K n).var) (d := (getOr K n).parent) hu11.one'; replace f1 := f1.ext hx; replace hX := hX.trans hx; clear hx hu11 hr11)
      | ((with_reducible refine at_alloc ?_); refine w_alloc Try.stBlk rfl rfl ?_; intro g5 w2 hg5 hx2 f5)
      | ((with_reducible refine at_store ?_); refine w_astore Try.stBlk _ _ (us := bRow (getOr K n) u11) rfl rfl rfl rfl rfl f5 rfl rfl hone11 ?_; intro w3 hm3 f6; replace hx2 := hm3.after hx2 (fun i hi => by subst hi; exact hg5); replace f5 : Fs w3 g5 (bRow (getOr K n) u11) := f6; replace hX := hX.trans hx2; replace f1 := f1.ext hx2; clear hm3 f6 hx2 hg5)
      | ((with_reducible refine at_load ?_); refine w_aload Try.stDoc _ rfl rfl rfl f1 rfl ?_)
      | ((with_reducible refine at_lit ?_); refine w_new Try.elI (i64s []) rfl rfl rfl (i64s_cells _) rfl (by omega) ?_; intro v3 w5 hx3 o3; replace o3 : OwnI _ w5 v3 [] := o3; replace o3 := hide_ (own_mono o3 hX.size); replace hX := hX.trans hx3; clear hx3)
      | fail) <;> (try simp only [Act.put, List.setIfInBounds_toArray, List.set_cons_zero, List.set_cons_succ]))
    go_ret
    exact Keep.intro ⟨_, rfl, by rw [e1.out]; exact o3.out, hX⟩
  | succ m ih =>
    intro n w hK0 hm
    cases hg : TrS.get K n with
    | none =>
      have e1 := hide_ (TrS.path_none hg)
      have e2 := hide_ (show TrS.has K n = false by rw [← get_has, hg]; rfl)
      have hK := hide_ hK0
      clear hK0 hg hm ih
      refine calls_keep ?_
      go_enter Try.func79, Try.ntmps79
      go_wp2_with ((first
        | ((with_reducible refine at_box ?_); refine w_box _ [vk, vw] rfl rfl rfl rfl ?_; intro g1 w1 hg1 hX f1)
        | (go_at_call 36; refine (refGet_any (vw := vw) (n := n) (hK.out.ext BlkR.stays hX)).mono ?_; rintro e w4 ⟨u11, rfl, hu11, hr11, hx⟩; rw [e2.out]; have hone11 := blk_one (a := (getOr K n).slot) (b := (getOr K n).miner) (c := (getOr K n).var) (d := (getOr K n).parent) hu11.one'; replace f1 := f1.ext hx; replace hX := hX.trans hx; clear hx hu11 hr11)
        | ((with_reducible refine at_alloc ?_); refine w_alloc Try.stBlk rfl rfl ?_; intro g5 w2 hg5 hx2 f5)
        | ((with_reducible refine at_store ?_); refine w_astore Try.stBlk _ _ (us := bRow (getOr K n) u11) rfl rfl rfl rfl rfl f5 rfl rfl hone11 ?_; intro w3 hm3 f6; replace hx2 := hm3.after hx2 (fun i hi => by subst hi; exact hg5); replace f5 : Fs w3 g5 (bRow (getOr K n) u11) := f6; replace hX := hX.trans hx2; replace f1 := f1.ext hx2; clear hm3 f6 hx2 hg5)
        | ((with_reducible refine at_load ?_); refine w_aload Try.stDoc _ rfl rfl rfl f1 rfl ?_)
        | ((with_reducible refine at_lit ?_); refine w_new Try.elI (i64s []) rfl rfl rfl (i64s_cells _) rfl (by omega) ?_; intro v3 w5 hx3 o3; replace o3 : OwnI _ w5 v3 [] := o3; replace o3 := hide_ (own_mono o3 hX.size); replace hX := hX.trans hx3; clear hx3)
        | fail) <;> (try simp only [Act.put, List.setIfInBounds_toArray, List.set_cons_zero, List.set_cons_succ]))
      go_ret
      exact Keep.intro ⟨_, rfl, by rw [e1.out]; exact o3.out, hX⟩
    | some b =>
      obtain ⟨hb, hbn⟩ := TrS.get_some hg
      have hbs := hm b hg
      have e0 := hide_ (show getOr K n = b by rw [getOr, hg]; rfl)
      have e2 := hide_ (show TrS.has K n = true by rw [← get_has, hg]; rfl)
      have e1 := hide_ (show TrS.path K n = TrS.path K b.parent ++ [n] by rw [← hbn]; exact hU.path hb)
      have hpl := hide_ (show ((TrS.path K b.parent).length + [n].length) * 8 ≤ 140737488355328 by have := path_len K b.parent; simp; omega)
      have hrec := hide_ (fun w' (h : Recs 5 BlkR w' vk K) => ih b.parent w' h fun c hc => by
        obtain ⟨h1, h2⟩ := TrS.get_some hc
        have := hU.slot_lt hb h1 h2
        omega)
      have hK := hide_ hK0
      clear hK0 hg hm ih hb hbn hbs
      refine calls_keep ?_
      go_enter Try.func79, Try.ntmps79
      go_wp2_with ((first
        | ((with_reducible refine at_box ?_); refine w_box _ [vk, vw] rfl rfl rfl rfl ?_; intro g1 w1 hg1 hX f1)
        | (go_at_call 36; refine (refGet_any (vw := vw) (n := n) (hK.out.ext BlkR.stays hX)).mono ?_; rintro e w4 ⟨u11, rfl, hu11, hr11, hx⟩; rw [e2.out]; rw [e0.out] at hu11 ⊢; have hone11 := blk_one (a := b.slot) (b := b.miner) (c := b.var) (d := b.parent) hu11.one'; replace f1 := f1.ext hx; replace hX := hX.trans hx; clear hx hu11 hr11)
        | ((with_reducible refine at_alloc ?_); refine w_alloc Try.stBlk rfl rfl ?_; intro g5 w2 hg5 hx2 f5)
        | ((with_reducible refine at_store ?_); refine w_astore Try.stBlk _ _ (us := bRow b u11) rfl rfl rfl rfl rfl f5 rfl rfl hone11 ?_; intro w3 hm3 f6; replace hx2 := hm3.after hx2 (fun i hi => by subst hi; exact hg5); replace f5 : Fs w3 g5 (bRow b u11) := f6; replace hX := hX.trans hx2; replace f1 := f1.ext hx2; clear hm3 f6 hx2 hg5)
        | ((with_reducible refine at_load ?_); refine w_aload Try.stDoc _ rfl rfl rfl f1 rfl ?_)
        | ((with_reducible refine at_field ?_); refine w_field Try.stBlk _ _ _ rfl rfl rfl (by omega) ?_)
        | ((with_reducible refine at_load ?_); refine w_fload _ rfl rfl rfl f5 rfl (agg_of (by kernel_rfl)) ?_)
        | (go_at_call 79; refine (hrec.out _ (hK.out.ext BlkR.stays hX)).mono ?_; rintro e w4 ⟨v19, rfl, o19, hx⟩; replace o19 := own_mono o19 hX.size; replace hX := hX.trans hx; clear hx f5)
        | ((with_reducible refine at_lit ?_); refine w_new Try.elI (i64s [n]) rfl rfl rfl (i64s_cells _) rfl (by omega) ?_; intro v3 w5 hx3 o3; replace o3 : OwnI _ w5 v3 [n] := o3; replace o19 := own_ext o19 hx3; replace hX := hX.trans hx3; clear hx3)
        | ((with_reducible refine at_bi ?_); refine appi _ _ rfl rfl rfl rfl o19 o3.ints hpl.out hX.size ?_; intro v9 w9 o9 hb9 hg9 hg9'; replace hX := hX.trans' hb9; replace o9 := hide_ o9; clear hb9 hg9 hg9' o19 o3)
        | fail) <;> (try simp only [Act.put, List.setIfInBounds_toArray, List.set_cons_zero, List.set_cons_succ]))
      go_ret
      exact Keep.intro ⟨_, rfl, by rw [e1.out]; exact o9.out, hX⟩
theorem refPath_any {w : World} {vk vw : Value} {K : List BlkD} {n : Int} (hU : TrS.Uq K) (hK : Recs 5 BlkR w vk K) :
    Calls Try.prog 79 #[.agg #[vk, vw], .int .i64 n] w fun e w' => ∃ v', e = .returned v' ∧ OwnI w.heap.size w' v' (TrS.path K n) ∧ Ext w w' :=
  refPath_lt hU 4096 n w hK fun b hb => by have := (hU.right b (TrS.get_some hb).1).s.2; omega

set_option maxRecDepth 100000 in
set_option maxHeartbeats 1600000 in
theorem refHeight_any {w : World} {vk vw : Value} {K : List BlkD} {n : Int} (hU : TrS.Uq K) (hK0 : Recs 5 BlkR w vk K) :
    Calls Try.prog 63 #[.agg #[vk, vw], .int .i64 n] w fun e w' => e = .returned (.int .i64 (TrS.height K n)) ∧ Ext w w' := by
  refine calls_keep ?_
  have hK := hide_ hK0
  clear hK0
  by_cases h0 : n = 0
  · have c1 : (n == 0) = true := by simpa using h0
    have e := hide_ (show TrS.height K n = 0 by rw [h0]; exact TrS.height_zero K)
    clear h0
    go_enter Try.func63, Try.ntmps63
    go_wp2_with ((first
      | ((with_reducible refine at_box ?_); refine w_box _ [vk, vw] rfl rfl rfl rfl ?_; intro g1 w1 hg1 hX f1)
      | fail) <;> (try simp only [Act.put, List.setIfInBounds_toArray, List.set_cons_zero, List.set_cons_succ]))
    go_ret
    exact Keep.intro ⟨by rw [e.out]; rfl, hX⟩
  have c1 : (n == 0) = false := by simpa using h0
  cases hg : TrS.get K n with
  | none =>
    have e := hide_ (show TrS.height K n = -1 by unfold TrS.height; rw [if_neg h0, hg]; rfl)
    have e2 := hide_ (show TrS.has K n = false by rw [← get_has, hg]; rfl)
    clear h0 hg
    go_enter Try.func63, Try.ntmps63
    go_wp2_with ((first
      | ((with_reducible refine at_box ?_); refine w_box _ [vk, vw] rfl rfl rfl rfl ?_; intro g1 w1 hg1 hX f1)
      | (go_at_call 36; refine (refGet_any (vw := vw) (n := n) (hK.out.ext BlkR.stays hX)).mono ?_; rintro e w4 ⟨u11, rfl, hu11, hr11, hx⟩; rw [e2.out]; have hone11 := blk_one (a := (getOr K n).slot) (b := (getOr K n).miner) (c := (getOr K n).var) (d := (getOr K n).parent) hu11.one'; replace f1 := f1.ext hx; replace hX := hX.trans hx; clear hx hu11 hr11)
      | ((with_reducible refine at_alloc ?_); refine w_alloc Try.stBlk rfl rfl ?_; intro g5 w2 hg5 hx2 f5)
      | ((with_reducible refine at_store ?_); refine w_astore Try.stBlk _ _ (us := bRow (getOr K n) u11) rfl rfl rfl rfl rfl f5 rfl rfl hone11 ?_; intro w3 hm3 f6; replace hx2 := hm3.after hx2 (fun i hi => by subst hi; exact hg5); replace f5 : Fs w3 g5 (bRow (getOr K n) u11) := f6; replace hX := hX.trans hx2; replace f1 := f1.ext hx2; clear hm3 f6 hx2 hg5)
      | ((with_reducible refine at_load ?_); refine w_aload Try.stDoc _ rfl rfl rfl f1 rfl ?_)
      | fail) <;> (try simp only [Act.put, List.setIfInBounds_toArray, List.set_cons_zero, List.set_cons_succ]))
    go_ret
    exact Keep.intro ⟨by rw [e.out]; rfl, hX⟩
  | some b =>
    have e := hide_ (show TrS.height K n = ((TrS.path K n).length : Nat) by unfold TrS.height; rw [if_neg h0, hg]; rfl)
    have e2 := hide_ (show TrS.has K n = true by rw [← get_has, hg]; rfl)
    clear h0 hg
    go_enter Try.func63, Try.ntmps63
    go_wp2_with ((first
      | ((with_reducible refine at_box ?_); refine w_box _ [vk, vw] rfl rfl rfl rfl ?_; intro g1 w1 hg1 hX f1)
      | (go_at_call 36; refine (refGet_any (vw := vw) (n := n) (hK.out.ext BlkR.stays hX)).mono ?_; rintro e w4 ⟨u11, rfl, hu11, hr11, hx⟩; rw [e2.out]; have hone11 := blk_one (a := (getOr K n).slot) (b := (getOr K n).miner) (c := (getOr K n).var) (d := (getOr K n).parent) hu11.one'; replace f1 := f1.ext hx; replace hX := hX.trans hx; clear hx hu11 hr11)
      | ((with_reducible refine at_alloc ?_); refine w_alloc Try.stBlk rfl rfl ?_; intro g5 w2 hg5 hx2 f5)
      | ((with_reducible refine at_store ?_); refine w_astore Try.stBlk _ _ (us := bRow (getOr K n) u11) rfl rfl rfl rfl rfl f5 rfl rfl hone11 ?_; intro w3 hm3 f6; replace hx2 := hm3.after hx2 (fun i hi => by subst hi; exact hg5); replace f5 : Fs w3 g5 (bRow (getOr K n) u11) := f6; replace hX := hX.trans hx2; replace f1 := f1.ext hx2; clear hm3 f6 hx2 hg5)
      | ((with_reducible refine at_load ?_); refine w_aload Try.stDoc _ rfl rfl rfl f1 rfl ?_)
      | (go_at_call 79; refine (refPath_any (n := n) hU (hK.out.ext BlkR.stays hX)).mono ?_; rintro e w4 ⟨v19, rfl, o19, hx⟩; replace o19 := o19.ints; replace hX := hX.trans hx; clear hx)
      | ((with_reducible refine at_bi ?_); refine i_len _ rfl rfl (v := v19) rfl o19 ?_)
      | fail) <;> (try simp only [Act.put, List.setIfInBounds_toArray, List.set_cons_zero, List.set_cons_succ]))
    go_ret
    exact Keep.intro ⟨by rw [e.out]; rfl, hX⟩
end Go.Proofs.Ytdacclcaopmalaa
