/- The statement ChainRuns: whatever is done with a chain: all answers, the slot, what is confirmed, and the transactions on the way. No condition. -/
import Derived.Test.YtpnbkgeglgiihaaChK
import Derived.Test.YtpnbkgeglgiihaaCAct
import Derived.Test.YtpnbkgeglgiihaaRegM
import Derived.Test.YtpnbkgeglgiihaaArgI
namespace Go.Proofs.Ytpnbkgeglgiihaa
set_option maxRecDepth 100000
open Go.RowKit Go.ChangeShapes Go.WideShapes Go.ChangeAt

set_option maxRecDepth 100000 in
set_option maxHeartbeats 12800000 in
theorem chainRuns_law (v0 : Value) (l0 : List Int) (deep : Int) (v2 : Value) (l : List ActC) (W : World) (h00 : Ints W v0 l0) (_hI : I64s l0) (hdI0 : I64 deep) (hl00 : Recs 8 ActCR W v2 l) :
    Calls Try.prog 4 #[v0, .int .i64 deep, v2] W fun e w' => e = .returned (.bool true) ∧ Ext W w' := by
  refine calls_keep ?_
  have h0 := hide_ h00
  have hl0 := hide_ hl00
  have hdI := hide_ hdI0
  have hv01 := hide_ (Sl.one' h00)
  have hmax := hl00.len_le
  unfold maxLen at hmax
  have hraws := hide_ (fun k d (h : l[k]? = some d) => acts_at hl00 h)
  clear h00 hl00 _hI hdI0
  by_cases hD0 : DrOk l0
  rotate_left
  · have e0 := hide_ (show lchk l0 = 101 from if_neg hD0)
    clear hD0
    go_enter Try.func4, Try.ntmps4
    go_wp2_with (first
      | (go_at_call 10; refine (chainAlive_any _).mono ?_; rintro e w2 ⟨rfl, hX⟩)
      | (go_at_call 13; refine (refCheck_any (h0.out.ext hX)).mono ?_; rintro e w4 ⟨rfl, hx⟩; rw [e0.out]; replace hX := hX.trans hx; clear hx)
      | fail)
    go_ret
    exact Keep.intro ⟨rfl, hX⟩
  have e0 := hide_ (show lchk l0 = 0 from if_pos hD0)
  have hD := hide_ hD0
  cases td1 : decide (deep < 0)
  rotate_left
  · clear hD0
    go_enter Try.func4, Try.ntmps4
    go_wp2_with (first
      | go_big_skip
      | (go_at_call 10; refine (chainAlive_any _).mono ?_; rintro e w2 ⟨rfl, hX⟩)
      | (go_at_call 13; refine (refCheck_any (h0.out.ext hX)).mono ?_; rintro e w4 ⟨rfl, hx⟩; rw [e0.out]; replace hX := hX.trans hx; clear hx)
      | fail)
    go_ret
    exact Keep.intro ⟨rfl, hX⟩
  cases td2 : decide (10 < deep)
  rotate_left
  · clear hD0
    go_enter Try.func4, Try.ntmps4
    go_wp2_with (first
      | go_big_skip
      | (go_at_call 10; refine (chainAlive_any _).mono ?_; rintro e w2 ⟨rfl, hX⟩)
      | (go_at_call 13; refine (refCheck_any (h0.out.ext hX)).mono ?_; rintro e w4 ⟨rfl, hx⟩; rw [e0.out]; replace hX := hX.trans hx; clear hx)
      | fail)
    go_ret
    exact Keep.intro ⟨rfl, hX⟩
  by_cases hb1 : 60 < l.length
  · have t1 : decide ((60 : Int) < (l.length : Int)) = true := decide_eq_true (by omega)
    clear hD0 hb1
    go_enter Try.func4, Try.ntmps4
    go_wp2_with ((first
      | go_big_skip
      | (go_at_call 10; refine (chainAlive_any _).mono ?_; rintro e w2 ⟨rfl, hX⟩)
      | (go_at_call 13; refine (refCheck_any (h0.out.ext hX)).mono ?_; rintro e w4 ⟨rfl, hx⟩; rw [e0.out]; replace hX := hX.trans hx; clear hx)
      | ((with_reducible refine at_bi ?_); (try refine w_yes _ _ _ rfl rfl rfl ?_); refine w_rlen Try.elAC _ rfl rfl rfl (hl0.out.ext ActCR.stays hX) ?_)
      | fail) <;> (try simp only [Act.put, List.setIfInBounds_toArray, List.set_cons_zero, List.set_cons_succ]))
    go_ret
    exact Keep.intro ⟨rfl, hX⟩
  have t1 : decide ((60 : Int) < (l.length : Int)) = false := decide_eq_false (by omega)
  have hbig := hide_ (show (([] : List Int).length + l0.length) * 8 ≤ 140737488355328 from by have := hD0.1; simp; omega)
  clear hD0
  go_enter Try.func4, Try.ntmps4
  go_wp2_with ((first
    | go_big_skip
    | (go_at_call 8; refine (CNew_any (deep := deep) i8 hD.out hdI.out).mono ?_; rintro e w1 ⟨q, p, dv, H, rfl, hC, hx, hq, hH⟩; have hO : Out W (CQ H q) w1 := ⟨hX.trans hx, fun k hk => hk.elim (fun e => Nat.le_trans hX.size (hH k e)) (fun e => e ▸ Nat.le_trans hX.size hq)⟩; clear hX hx hq hH i8)
    | (go_at_call 10; refine (chainAlive_any _).mono ?_; rintro e w2 ⟨rfl, hX⟩)
    | (go_at_call 13; refine (refCheck_any (h0.out.ext hX)).mono ?_; rintro e w4 ⟨rfl, hx⟩; rw [e0.out]; replace hX := hX.trans hx; clear hx)
    | ((with_reducible refine at_bi ?_); (try refine w_yes _ _ _ rfl rfl rfl ?_); refine w_rlen Try.elAC _ rfl rfl rfl (hl0.out.ext ActCR.stays hX) ?_)
    | ((with_reducible refine at_lit ?_); refine w_new Try.elI (i64s []) rfl rfl rfl (i64s_cells _) rfl (by omega) ?_; intro v5 w5 hx3 o5; replace o5 : OwnI _ w5 v5 [] := o5; have hs5 := hx3.size)
    | ((with_reducible refine at_bi ?_); refine appi _ _ rfl rfl rfl rfl o5 (h0.out.ext (hX.trans hx3)) hbig.out hs5 ?_; intro v9 w9 o9 hb9 hg9 hg9'; rw [List.nil_append] at o9; have i8 := o9.ints; have hx4 := hx3.trans' hb9; replace hX := hX.trans hx4; clear hb9 hg9 hg9' hx3 hx4 hs5 o5 o9)
    | (refine w_cbuild (v := v0) (d := deep) _ _ rfl rfl rfl rfl h0.out ?_)
    | ((with_reducible refine at_alloc ?_); refine w_allocN Try.stDocC rfl rfl ?_; intro g8 w2 hg8 hx2 f8)
    | ((with_reducible refine at_store ?_); refine w_astoreN Try.stDocC (.tmp 8) _ (us := cRow (.slice none 0 0) (.slice none 0 0) v0 deep 0) rfl rfl rfl rfl rfl f8 rfl rfl (crow_one rfl rfl hv01.out) ?_; intro w3 hm3 f9; have hR := RC.start hC hO hg8 (hm3.after hx2 (fun i hi => by subst hi; exact hg8)) f9; clear hm3 f9 f8 hx2 hg8 hC hO)
    | ((with_reducible refine at_bi ?_); refine w_rlen Try.elAC _ rfl rfl rfl (hl0.out.ext ActCR.stays hR.out.ext) ?_)
    | fail) <;> (try simp only [Act.put, List.setIfInBounds_toArray, List.set_cons_zero, List.set_cons_succ]))
  go_loopw [51] (fun i wr => ∃ (k : Nat) (H : Nat → Prop) (K V : List BlkD) (slot : Int) (vk vw : Value), i = .int .i64 k ∧ k ≤ l.length ∧ RC W wr H q p g8 dv v0 vk vw l0 deep slot slot K V K V ∧ TrS.Good ⟨K, V⟩) (fun i _ => l.length - (RowKit.intOf i).toNat)
  case atStart => exact ⟨0, H, [], [], 0, _, _, rfl, Nat.zero_le _, hR, TrS.Good.nil⟩
  case round =>
    clear hR
    obtain ⟨k, H, K, V, slot, vk, vw, rfl, hk, hR, hgo⟩ := hrel
    by_cases hge : l.length ≤ k
    · obtain rfl : k = l.length := by omega
      have t2 : decide (l.length < l.length) = false := by simp
      clear hge hk hgo
      go_wp2
      go_ret
      exact Keep.intro ⟨rfl, hR.out.ext⟩
    have hlt : k < l.length := by omega
    have t2 : decide (k < l.length) = true := by simpa using hlt
    obtain ⟨d, hd0⟩ : ∃ d, l[k]? = some d := ⟨_, List.getElem?_eq_getElem hlt⟩
    have hd := hide_ hd0
    have hok := hide_ (hraws.out k d hd0)
    have hlt' := hide_ hlt
    have hk4 : k ≤ 60 := by omega
    have hU1 := hide_ hgo.uq
    have hSt1 := hide_ hgo.stood
    have hlen1 := hide_ (show K.length ≤ 400 from hgo.room)
    cases c1 : (d.k == 1)
    rotate_left
    · have c2 : (d.k == 2) = false := by
        have : d.k = 1 := by simpa using c1
        rw [this]; rfl
      obtain ⟨ms, hms0⟩ : ∃ ms, max slot d.n = ms := ⟨_, rfl⟩
      have hms := hide_ hms0
      obtain ⟨T, hT0⟩ : ∃ T, TrS.tip K = T := ⟨_, rfl⟩
      have hT := hide_ hT0
      have hU2 := hU1
      have hlen2 := hlen1
      replace hgo := hide_ hgo
      clear hge hlt hd0 hms0 hT0
      go_wp2_with ((first
        | (go_at_call 14; refine (CNext_any (n := d.n) hR.c hok.out.n).mono ?_; rintro e w7 ⟨rfl, hC2, hm⟩; rw [hms.out] at hC2; replace f10 := f10.mod hm n10.out.2.1; replace hR := hR.next hm hC2; clear hC2 hm f11)
        | (go_at_call 15; refine (refCNext_any (n := d.n) (hR.one hv01.out slot)).mono ?_; rintro e w8 ⟨rfl, hx⟩; rw [hms.out]; replace f10 := f10.ext hx; replace hR := hR.extend hx; clear hx)
        | (go_at_call 22; refine (refTip_any hU2.out hR.recK hlen2.out).mono ?_; rintro e w9 ⟨rfl, hx⟩; rw [hT.out]; (try replace hE := hE.trans hx); replace hR := hR.extend hx; clear hx)
        | ((with_reducible refine at_idx ?_); refine w_actidx Try.elAC _ _ k rfl rfl rfl rfl hl0.out hR.out.ext hd.out ?_; intro pa u t hrow hu0 ht1; have hone := hide_ (actc_one (d := d) hu0 ht1); have honeb := hide_ (blk_one (a := d.b.slot) (b := d.b.miner) (c := d.b.var) (d := d.b.parent) hu0.one'); replace hrow := hide_ hrow; have hu := hide_ hu0; have htt := hide_ ht1; clear hu0 ht1)
        | ((with_reducible refine at_load ?_); refine w_ploadN Try.stAC _ rfl rfl rfl hrow.out rfl ?_)
        | ((with_reducible refine at_alloc ?_); have _t := hone; refine w_allocN Try.stAC rfl rfl ?_; intro g10 w3 hg10 hx2 f10; have n10 := hide_ (hR.fresh hg10))
        | ((with_reducible refine at_store ?_); refine w_astoreN Try.stAC (.tmp 10) _ (us := aRow d u t) rfl rfl rfl rfl rfl f10 rfl rfl hone.out ?_; intro w4 hm3 f9; replace hx2 := hm3.after hx2 (fun i hi => by subst hi; exact hg10); replace f10 : Fs w4 g10 (aRow d u t) := f9; (try replace hE := hE.trans hx2); replace hR := hR.extend hx2; clear hm3 f9 hx2 hg10 hone)
        | ((with_reducible refine at_alloc ?_); have _t := honeb; refine w_alloc Try.stBlk rfl rfl ?_; intro g11 w5 hg11 hx2 f11; have n11 := hide_ (hR.fresh hg11); (try have hg11r := hide_ (Nat.le_trans hE.size hg11)); have h1011 := hide_ (show ¬ g10 = g11 from fun e => by have := f10.lt; omega))
        | ((with_reducible refine at_store ?_); have _t := honeb; refine w_astore Try.stBlk (.tmp 11) _ (us := bRow d.b u) rfl rfl rfl rfl rfl f11 rfl rfl honeb.out ?_; intro w6 hm3 f9; replace hx2 := hm3.after hx2 (fun i hi => by subst hi; exact hg11); replace f11 : Fs w6 g11 (bRow d.b u) := f9; replace f10 := f10.ext hx2; (try replace hE := hE.trans hx2); replace hR := hR.extend hx2; clear hm3 f9 hx2 hg11 honeb)
        | ((with_reducible refine at_store ?_); refine w_astoreN Try.stDocC (.tmp 8) _ (us := cRow vk vw v0 deep ms) rfl rfl rfl rfl rfl hR.f8 rfl rfl (hR.one hv01.out ms) ?_; intro w9 hm3 f9; replace f10 := f10.mod hm3 n10.out.2.2; replace hR := hR.store hR.kk hR.kv hm3 f9; clear hm3 f9)
        | ((with_reducible refine at_field ?_); refine w_fieldN (i := 0) (off := 0) (by kernel_rfl) (.tmp 10) _ rfl rfl rfl ?_)
        | ((with_reducible refine at_field ?_); refine w_fieldN (i := 1) (off := 1) (by kernel_rfl) (.tmp 10) _ rfl rfl rfl ?_)
        | ((with_reducible refine at_field ?_); refine w_fieldN (i := 2) (off := 2) (by kernel_rfl) (.tmp 10) _ rfl rfl rfl ?_)
        | ((with_reducible refine at_field ?_); refine w_fieldN (i := 0) (off := 0) (by kernel_rfl) (.tmp 8) _ rfl rfl rfl ?_)
        | ((with_reducible refine at_load ?_); refine w_loadN Try.stBlkN _ (bRow d.b u) rfl rfl rfl f10 rfl (blk_at d u t) ?_)
        | ((with_reducible refine at_load ?_); refine w_loadN Try.stDocC (.tmp 8) (cRow vk vw v0 deep slot) rfl rfl rfl hR.f8 rfl self_at ?_)
        | ((with_reducible refine at_load ?_); refine w_loadN Try.stDocT _ [vk, vw] rfl rfl rfl hR.f8 rfl (tree_at _ _ _ _ _) ?_)
        | ((with_reducible refine at_load ?_); refine w_fload _ rfl rfl rfl f10 rfl (agg_of (by kernel_rfl)) ?_)
        | fail) <;> (try simp only [Act.put, List.setIfInBounds_toArray, List.set_cons_zero, List.set_cons_succ]))
      obtain ⟨cf, hcf0⟩ : ∃ cf, backN (TrS.path K (TrS.tip K)) deep = cf := ⟨_, rfl⟩
      obtain ⟨UU, hUU0⟩ : ∃ UU, ids K T = UU := ⟨_, rfl⟩
      have hSl := hide_ (fun w' (h : Ext w9 w') => CSlot_any (hR.c.ext h))
      have hTr := hide_ (fun w' (h : Ext w9 w') => CTree_any (hR.c.ext h))
      have hTp := hide_ (fun w' (h : Ext w9 w') => hT.out ▸ Tip_any (hR.c.tr.ext h))
      have hCf := hide_ (fun w' (h : Ext w9 w') => hcf0 ▸ CConf_any (hR.c.ext h))
      have hRf := hide_ (fun w' (h : Ext w9 w') => hcf0 ▸ refCConf_any (vk := vk) (vw := vw) (dv := v0) (deep := deep) (slot := ms) hU2.out (hR.recK.ext BlkR.stays h) hlen2.out)
      have hTI := hide_ (show I64 T from hT.out ▸ hR.c.tipI)
      have hTx := hide_ (fun w' (h : Ext w9 w') => hUU0 ▸ CTxs_any (hR.c.ext h) hTI.out)
      have hRx := hide_ (fun w' (h : Ext w9 w') => hUU0 ▸ refCTxs_any (vk := vk) (vw := vw) (dv := v0) (deep := deep) (slot := ms) (n := T) hU2.out (hR.recK.ext BlkR.stays h))
      have f8 := hR.f8
      have hX := Ext.refl w9
      clear hcf0 hUU0
      refine wp_region_phx (by kernel_rfl) ?_; intro wd hxd; have F8 := f8.ext hxd
      refine Ph.rest 0 29 (by kernel_rfl) ?_
      refine LinL.step (s := (.val (.pointer (some ⟨q, 0, none⟩)))) [(7, none)] rfl (by kernel_rfl) (op_out 7 (.pointer (some ⟨q, 0, none⟩)) rfl (.inl rfl) rfl) ?_
      refine LinL.step (s := (.val (.int .i64 ms))) [(130, some 0)] rfl (by kernel_rfl) (op_calls 12 #[(.tmp 130)] #[22] (fun σ => #[.pointer (some ⟨q, 0, none⟩)]) rfl rfl (fun _ _ => rfl) fun σ w' hx hg => ⟨by have h130 : σ.tmps.getD 130 undef = .pointer (some ⟨q, 0, none⟩) := hg.1; simp only [List.map_toArray, List.map_cons, List.map_nil, Act.eval, h130], retH (hSl.out w' (hX.trans (hxd.trans hx)))⟩) ?_
      refine LinL.step (s := (.val (.pointer (some ⟨g8, 4, none⟩)))) [(8, none)] rfl (by kernel_rfl) (op_runs rfl fun σ w' hx hg => ⟨_, runs_fieldN (ρ := σ.eval) (w := w') (i := 3) (off := 4) (by kernel_rfl) (.tmp 8) g8 rfl hg.1, rfl⟩) ?_
      refine LinL.step (s := (.val (.int .i64 ms))) [(132, some 0)] rfl (by kernel_rfl) (op_runs rfl fun σ w' hx hg => ⟨_, runs_fload (ρ := σ.eval) (w := w') (.tmp 132) rfl hg.1 (agg_of (by kernel_rfl) _) (F8.ext hx) rfl, rfl⟩) ?_
      refine LinL.step (s := (.val (.bool false))) [(131, some 2), (133, some 0)] rfl (by kernel_rfl) (op_runs rfl fun σ w' hx hg => ⟨(.bool false), by have h131 : σ.tmps.getD 131 undef = .int .i64 ms := hg.1; have h133 : σ.tmps.getD 133 undef = .int .i64 ms := hg.2.1; unfold Runs execOp; simp [Act.eval, h131, h133, go_sem], rfl⟩) ?_
      refine LinL.step (s := (.val (.bool false))) [(134, some 0)] rfl (by kernel_rfl) (op_copy 134 0 (.val (.bool false)) rfl (.inl rfl) rfl) ?_
      refine LinL.step (s := (.val (.pointer (some ⟨q, 0, none⟩)))) [(7, none), (135, some 0)] rfl (by kernel_rfl) (op_yes (reads := [(7, none)]) 5 135 0 false rfl rfl rfl (op_out 7 (.pointer (some ⟨q, 0, none⟩)) rfl (.inl rfl) rfl)) ?_
      refine LinL.step (s := (.val (.pointer (some ⟨p, 0, none⟩)))) [(136, some 0), (135, some 1)] rfl (by kernel_rfl) (op_yes (reads := [(136, some 0)]) 5 135 1 false rfl rfl rfl (op_calls 23 #[(.tmp 136)] #[22] (fun σ => #[.pointer (some ⟨q, 0, none⟩)]) rfl rfl (fun _ _ => rfl) fun σ w' hx hg => ⟨by have h136 : σ.tmps.getD 136 undef = .pointer (some ⟨q, 0, none⟩) := hg.1; simp only [List.map_toArray, List.map_cons, List.map_nil, Act.eval, h136], retH (hTr.out w' (hX.trans (hxd.trans hx)))⟩)) ?_
      refine LinL.step (s := (.val (.int .i64 T))) [(137, some 0), (135, some 2)] rfl (by kernel_rfl) (op_yes (reads := [(137, some 0)]) 5 135 2 false rfl rfl rfl (op_calls 24 #[(.tmp 137)] #[53] (fun σ => #[.pointer (some ⟨p, 0, none⟩)]) rfl rfl (fun _ _ => rfl) fun σ w' hx hg => ⟨by have h137 : σ.tmps.getD 137 undef = .pointer (some ⟨p, 0, none⟩) := hg.1; simp only [List.map_toArray, List.map_cons, List.map_nil, Act.eval, h137], retH (hTp.out w' (hX.trans (hxd.trans hx)))⟩)) ?_
      refine LinL.step (s := (.val (.int .i64 T))) [(22, none), (135, some 3)] rfl (by kernel_rfl) (op_yes (reads := [(22, none)]) 5 135 3 false rfl rfl rfl (op_out 22 (.int .i64 T) rfl (.inl rfl) rfl)) ?_
      refine LinL.step (s := (.val (.bool false))) [(138, some 1), (139, some 0), (135, some 4)] rfl (by kernel_rfl) (op_yes (reads := [(138, some 1), (139, some 0)]) 5 135 4 false rfl rfl rfl (op_runs rfl fun σ w' hx hg => ⟨(.bool false), by have h138 : σ.tmps.getD 138 undef = .int .i64 T := hg.1; have h139 : σ.tmps.getD 139 undef = .int .i64 T := hg.2.1; unfold Runs execOp; simp [Act.eval, h138, h139, go_sem], rfl⟩)) ?_
      refine LinL.step (s := (.val (.bool false))) [(135, some 5), (140, some 0)] rfl (by kernel_rfl) (op_runs rfl fun σ w' hx hg => ⟨_, runs_pick_f (ρ := σ.eval) (w := w') (.tmp 135) (.const (.bool true)) (.tmp 140) rfl hg.1 hg.2.1, rfl⟩) ?_
      refine LinL.step (s := (.val (.bool false))) [(141, some 0)] rfl (by kernel_rfl) (op_copy 141 0 (.val (.bool false)) rfl (.inl rfl) rfl) ?_
      refine LinL.step (s := (.val (.pointer (some ⟨q, 0, none⟩)))) [(7, none), (142, some 0)] rfl (by kernel_rfl) (op_yes (reads := [(7, none)]) 12 142 0 false rfl rfl rfl (op_out 7 (.pointer (some ⟨q, 0, none⟩)) rfl (.inl rfl) rfl)) ?_
      refine LinL.step (s := (.val (.int .i64 cf))) [(143, some 0), (142, some 1)] rfl (by kernel_rfl) (op_yes (reads := [(143, some 0)]) 12 142 1 false rfl rfl rfl (op_calls 11 #[(.tmp 143)] #[22] (fun σ => #[.pointer (some ⟨q, 0, none⟩)]) rfl rfl (fun _ _ => rfl) fun σ w' hx hg => ⟨by have h143 : σ.tmps.getD 143 undef = .pointer (some ⟨q, 0, none⟩) := hg.1; simp only [List.map_toArray, List.map_cons, List.map_nil, Act.eval, h143], retH (hCf.out w' (hX.trans (hxd.trans hx)))⟩)) ?_
      refine LinL.step (s := (.val (.agg #[vk, vw, v0, .int .i64 deep, .int .i64 ms]))) [(8, none), (142, some 2)] rfl (by kernel_rfl) (op_yes (reads := [(8, none)]) 12 142 2 false rfl rfl rfl (op_runs rfl fun σ w' hx hg => ⟨_, runs_loadN (ρ := σ.eval) (w := w') Try.stDocC (.tmp 8) (us := cRow vk vw v0 deep ms) rfl hg.1 (F8.ext hx) rfl self_at, rfl⟩)) ?_
      refine LinL.step (s := (.val (.int .i64 cf))) [(145, some 0), (142, some 3)] rfl (by kernel_rfl) (op_yes (reads := [(145, some 0)]) 12 142 3 false rfl rfl rfl (op_calls 25 #[(.tmp 145)] #[39] (fun σ => #[.agg #[vk, vw, v0, .int .i64 deep, .int .i64 ms]]) rfl rfl (fun _ _ => rfl) fun σ w' hx hg => ⟨by have h145 : σ.tmps.getD 145 undef = .agg #[vk, vw, v0, .int .i64 deep, .int .i64 ms] := hg.1; simp only [List.map_toArray, List.map_cons, List.map_nil, Act.eval, h145], retH (hRf.out w' (hX.trans (hxd.trans hx)))⟩)) ?_
      refine LinL.step (s := (.val (.bool false))) [(144, some 2), (146, some 0), (142, some 4)] rfl (by kernel_rfl) (op_yes (reads := [(144, some 2), (146, some 0)]) 12 142 4 false rfl rfl rfl (op_runs rfl fun σ w' hx hg => ⟨(.bool false), by have h144 : σ.tmps.getD 144 undef = .int .i64 cf := hg.1; have h146 : σ.tmps.getD 146 undef = .int .i64 cf := hg.2.1; unfold Runs execOp; simp [Act.eval, h144, h146, go_sem], rfl⟩)) ?_
      refine LinL.step (s := (.val (.bool false))) [(142, some 5), (147, some 0)] rfl (by kernel_rfl) (op_runs rfl fun σ w' hx hg => ⟨_, runs_pick_f (ρ := σ.eval) (w := w') (.tmp 142) (.const (.bool true)) (.tmp 147) rfl hg.1 hg.2.1, rfl⟩) ?_
      refine LinL.step (s := (.val (.bool false))) [(148, some 0)] rfl (by kernel_rfl) (op_copy 148 0 (.val (.bool false)) rfl (.inl rfl) rfl) ?_
      refine LinL.step (s := (.val (.pointer (some ⟨q, 0, none⟩)))) [(7, none), (149, some 0)] rfl (by kernel_rfl) (op_yes (reads := [(7, none)]) 19 149 0 false rfl rfl rfl (op_out 7 (.pointer (some ⟨q, 0, none⟩)) rfl (.inl rfl) rfl)) ?_
      refine LinL.step (s := (.val (.int .i64 T))) [(22, none), (149, some 1)] rfl (by kernel_rfl) (op_yes (reads := [(22, none)]) 19 149 1 false rfl rfl rfl (op_out 22 (.int .i64 T) rfl (.inl rfl) rfl)) ?_
      refine LinL.step (s := (.sl (i64s UU))) [(150, some 1), (151, some 0), (149, some 2)] rfl (by kernel_rfl) (op_yes (reads := [(150, some 1), (151, some 0)]) 19 149 2 false rfl rfl rfl (op_calls 26 #[(.tmp 150), (.tmp 151)] #[22, 3] (fun σ => #[.pointer (some ⟨q, 0, none⟩), .int .i64 T]) rfl rfl (fun _ _ => rfl) fun σ w' hx hg => ⟨by have h150 : σ.tmps.getD 150 undef = .pointer (some ⟨q, 0, none⟩) := hg.1; have h151 : σ.tmps.getD 151 undef = .int .i64 T := hg.2.1; simp only [List.map_toArray, List.map_cons, List.map_nil, Act.eval, h150, h151], retSl (hTx.out w' (hX.trans (hxd.trans hx)))⟩)) ?_
      refine LinL.step (s := (.val (.agg #[vk, vw, v0, .int .i64 deep, .int .i64 ms]))) [(8, none), (149, some 3)] rfl (by kernel_rfl) (op_yes (reads := [(8, none)]) 19 149 3 false rfl rfl rfl (op_runs rfl fun σ w' hx hg => ⟨_, runs_loadN (ρ := σ.eval) (w := w') Try.stDocC (.tmp 8) (us := cRow vk vw v0 deep ms) rfl hg.1 (F8.ext hx) rfl self_at, rfl⟩)) ?_
      refine LinL.step (s := (.val (.int .i64 T))) [(22, none), (149, some 4)] rfl (by kernel_rfl) (op_yes (reads := [(22, none)]) 19 149 4 false rfl rfl rfl (op_out 22 (.int .i64 T) rfl (.inl rfl) rfl)) ?_
      refine LinL.step (s := (.sl (i64s UU))) [(153, some 1), (154, some 0), (149, some 5)] rfl (by kernel_rfl) (op_yes (reads := [(153, some 1), (154, some 0)]) 19 149 5 false rfl rfl rfl (op_calls 27 #[(.tmp 153), (.tmp 154)] #[39, 3] (fun σ => #[.agg #[vk, vw, v0, .int .i64 deep, .int .i64 ms], .int .i64 T]) rfl rfl (fun _ _ => rfl) fun σ w' hx hg => ⟨by have h153 : σ.tmps.getD 153 undef = .agg #[vk, vw, v0, .int .i64 deep, .int .i64 ms] := hg.1; have h154 : σ.tmps.getD 154 undef = .int .i64 T := hg.2.1; simp only [List.map_toArray, List.map_cons, List.map_nil, Act.eval, h153, h154], retSl (hRx.out w' (hX.trans (hxd.trans hx)))⟩)) ?_
      refine LinL.step (s := (.val (.bool true))) [(152, some 3), (155, some 0), (149, some 6)] rfl (by kernel_rfl) (op_yes (reads := [(152, some 3), (155, some 0)]) 19 149 6 false rfl rfl rfl (op_calls 21 #[(.tmp 152), (.tmp 155)] #[24, 24] (fun σ => #[σ.tmps.getD 152 undef, σ.tmps.getD 155 undef]) rfl rfl (fun _ _ => rfl) fun σ w' hx hg => ⟨by skip; simp only [List.map_toArray, List.map_cons, List.map_nil, Act.eval], retH (SameInts_any _ _ UU _ hg.1 hg.2.1)⟩)) ?_
      refine LinL.step (s := (.val (.bool false))) [(156, some 0), (149, some 7)] rfl (by kernel_rfl) (op_yes (reads := [(156, some 0)]) 19 149 7 false rfl rfl rfl (op_runs rfl fun σ w' hx hg => ⟨(.bool false), by have h156 : σ.tmps.getD 156 undef = .bool true := hg.1; unfold Runs execOp; simp [Act.eval, h156, go_sem], rfl⟩)) ?_
      refine LinL.step (s := (.val (.bool false))) [(149, some 8), (157, some 0)] rfl (by kernel_rfl) (op_runs rfl fun σ w' hx hg => ⟨_, runs_pick_f (ρ := σ.eval) (w := w') (.tmp 149) (.const (.bool true)) (.tmp 157) rfl hg.1 hg.2.1, rfl⟩) ?_
      intro wN hxN
      simp only [Fin', List.reverse_cons, List.reverse_nil, List.nil_append, List.cons_append, List.drop_zero, List.take_succ_cons, List.take_zero]
      intro q152 hq152 q155 hq155
      simp only [Act.put, List.setIfInBounds_toArray, List.set_cons_zero, List.set_cons_succ]
      replace hX := hX.trans (hxd.trans hxN)
      replace hR := hR.extend hX
      clear hxd hxN F8 f8 hX hSl hTr hTp hCf hRf hTI hTx hRx
      go_wp2
      go_roundw
      case rel => exact ⟨k + 1, H, K, V, ms, vk, vw, by go_num, hlt'.out, hR, hgo.out⟩
      case measure => have := hlt'.out; simp [RowKit.intOf]; omega
    have hfewd := hide_ hok.out.few
    have hrawd := hide_ hok.out.raw
    cases c2 : (d.k == 2)
    · have hfew := hfewd
      have hrawb := hrawd
      obtain ⟨⟨K2, V2⟩, hT10⟩ : ∃ R, tkT l0 slot ⟨K, V⟩ d.b = R := ⟨_, rfl⟩
      obtain ⟨LL, hL10⟩ : ∃ R, tkL l0 slot ⟨K, V⟩ d.b = R := ⟨_, rfl⟩
      obtain ⟨EE, hE10⟩ : ∃ R, tkE l0 slot ⟨K, V⟩ d.b = R := ⟨_, rfl⟩
      have hgo20 : TrS.Good ⟨K2, V2⟩ := by
        have := tkT_good (ds := l0) (slot := slot) (b := d.b) hgo
        rw [hT10] at this; exact this
      have hT1 := hide_ hT10
      have hL1 := hide_ hL10
      have hE1 := hide_ hE10
      have hgo2 := hide_ hgo20
      have hU2 := hide_ hgo20.uq
      have hlen2 := hide_ (show K2.length ≤ 400 from hgo20.room)
      obtain ⟨T, hT0⟩ : ∃ T, TrS.tip K2 = T := ⟨_, rfl⟩
      have hT := hide_ hT0
      replace hgo := hide_ hgo
      clear hge hlt hd0 hT10 hL10 hE10 hgo20 hT0
      go_wp2_with ((first
        | (go_at_call 19; refine (BCopy_any (b := d.b) (hR.old hu.out).1 hfew.out).mono ?_; rintro e w7 ⟨uc, rfl, oc, hx⟩; replace oc := oc.recs; replace f11 := f11.ext hx; replace hR := hR.extend hx; clear hx)
        | (go_at_call 9; refine (CTake_any (b := d.b) hR.c hgo.out.few oc hrawb.out).mono ?_; rintro e w8 ⟨v17, H2, rfl, o17, hC2, hU⟩; rw [hT1.out] at hC2; rw [hL1.out] at o17; rw [hE1.out]; replace hC2 : ChC H2 w8 q p dv l0 deep slot K2 V2 := hC2; have hs17 := hide_ (show ∀ k, v17.ownBlock = some k → ¬ k = g8 from fun k hk e => by have h1 := (own_block_lt (g := k) o17 hk).1; have h2 := hR.f8.lt; omega); replace o17 := OwnI.ints o17; replace f11 := f11.mod hU.mod n11.out.1; replace hR := hR.add hU hC2; clear hC2 hU oc)
        | (go_at_call 20; refine (refCTake_kp (Wr := WS w8 (Sx H2 q g8)) (w := w8) (deep := deep) (slot := slot) (b := d.b) (u := u) (Ext.refl w8) hR.kk hR.kv hgo.out.few (h0.out.ext hR.out.ext) hD.out (hR.old hu.out) hrawb.out).mono ?_; rintro e w9 ⟨vk1, vw1, v20, rfl, k1, k2, o20, hx⟩; rw [hT1.out] at k1 k2; rw [hL1.out] at o20; rw [hE1.out]; replace k1 := hR.got k1 hx; replace k2 := hR.got k2 hx; replace k1 : KP (WS w9 (Sx H2 q g8)) (Sx H2 q g8) w9 vk1 K2 := k1; replace k2 : KP (WS w9 (Sx H2 q g8)) (Sx H2 q g8) w9 vw1 V2 := k2; have hs20 := hide_ (show ∀ k, v20.ownBlock = some k → ¬ k = g8 from fun k hk e => by have h1 := (own_block_lt (g := k) o20 hk).1; have h2 := hR.f8.lt; omega); replace o20 := OwnI.ints o20; replace o17 := Sl.ext o17 hx; replace hR := hR.extend hx; have one19 := hide_ (crow_one (deep := deep) (slot := slot) k1.one k2.one hv01.out); clear hx f11)
        | (go_at_call 21; refine (SameInts_any v17 v20 LL _ o17 o20).mono ?_; rintro e wD ⟨rfl, hx⟩; replace hR := hR.extend hx; clear hx o17 o20)
        | (go_at_call 22; refine (refTip_any hU2.out hR.recK hlen2.out).mono ?_; rintro e w9 ⟨rfl, hx⟩; rw [hT.out]; (try replace hE := hE.trans hx); replace hR := hR.extend hx; clear hx)
        | ((with_reducible refine at_alloc ?_); have _t := one19; refine w_allocN Try.stDocC rfl rfl ?_; intro g19 wA hg19 hx2 f19)
        | ((with_reducible refine at_store ?_); refine w_astoreN Try.stDocC (.tmp 19) _ (us := cRow vk1 vw1 v0 deep slot) rfl rfl rfl rfl rfl f19 rfl rfl one19.out ?_; intro wB hm3 f9; replace hx2 := hm3.after hx2 (fun i hi => by subst hi; exact hg19); replace f19 : Fs wB g19 (cRow vk1 vw1 v0 deep slot) := f9; replace k1 := k1.extS hx2; replace k2 := k2.extS hx2; replace o17 := Sl.ext o17 hx2; replace o20 := Sl.ext o20 hx2; replace hR := hR.extend hx2; clear hm3 f9 hx2 hg19)
        | ((with_reducible refine at_store ?_); refine w_astoreN Try.stDocC (.tmp 8) _ (us := cRow vk1 vw1 v0 deep slot) rfl rfl rfl rfl rfl hR.f8 rfl rfl one19.out ?_; intro wC hm3 f9; replace o17 := Sl.mod o17 hm3 hs17.out; replace o20 := Sl.mod o20 hm3 hs20.out; replace hR := hR.store k1 k2 hm3 f9; clear hm3 f9 k1 k2 f19)
        | ((with_reducible refine at_field ?_); refine w_fieldN (i := 0) (off := 0) (by kernel_rfl) (.tmp 8) _ rfl rfl rfl ?_)
        | ((with_reducible refine at_load ?_); refine w_loadN Try.stDocC (.tmp 19) (cRow vk1 vw1 v0 deep slot) rfl rfl rfl f19 rfl self_at ?_)
        | ((with_reducible refine at_load ?_); refine w_loadN Try.stDocC (.tmp 8) (cRow vk vw v0 deep slot) rfl rfl rfl hR.f8 rfl self_at ?_)
        | ((with_reducible refine at_load ?_); refine w_loadN Try.stDocT _ [vk1, vw1] rfl rfl rfl hR.f8 rfl (tree_at _ _ _ _ _) ?_)
        | ((with_reducible refine at_load ?_); refine w_aload Try.stBlk (.tmp 11) rfl rfl rfl f11 rfl ?_)
        | ((with_reducible refine at_idx ?_); refine w_actidx Try.elAC _ _ k rfl rfl rfl rfl hl0.out hR.out.ext hd.out ?_; intro pa u t hrow hu0 ht1; have hone := hide_ (actc_one (d := d) hu0 ht1); have honeb := hide_ (blk_one (a := d.b.slot) (b := d.b.miner) (c := d.b.var) (d := d.b.parent) hu0.one'); replace hrow := hide_ hrow; have hu := hide_ hu0; have htt := hide_ ht1; clear hu0 ht1)
        | ((with_reducible refine at_load ?_); refine w_ploadN Try.stAC _ rfl rfl rfl hrow.out rfl ?_)
        | ((with_reducible refine at_alloc ?_); have _t := hone; refine w_allocN Try.stAC rfl rfl ?_; intro g10 w3 hg10 hx2 f10; have n10 := hide_ (hR.fresh hg10))
        | ((with_reducible refine at_store ?_); refine w_astoreN Try.stAC (.tmp 10) _ (us := aRow d u t) rfl rfl rfl rfl rfl f10 rfl rfl hone.out ?_; intro w4 hm3 f9; replace hx2 := hm3.after hx2 (fun i hi => by subst hi; exact hg10); replace f10 : Fs w4 g10 (aRow d u t) := f9; (try replace hE := hE.trans hx2); replace hR := hR.extend hx2; clear hm3 f9 hx2 hg10 hone)
        | ((with_reducible refine at_alloc ?_); have _t := honeb; refine w_alloc Try.stBlk rfl rfl ?_; intro g11 w5 hg11 hx2 f11; have n11 := hide_ (hR.fresh hg11); (try have hg11r := hide_ (Nat.le_trans hE.size hg11)); have h1011 := hide_ (show ¬ g10 = g11 from fun e => by have := f10.lt; omega))
        | ((with_reducible refine at_store ?_); have _t := honeb; refine w_astore Try.stBlk (.tmp 11) _ (us := bRow d.b u) rfl rfl rfl rfl rfl f11 rfl rfl honeb.out ?_; intro w6 hm3 f9; replace hx2 := hm3.after hx2 (fun i hi => by subst hi; exact hg11); replace f11 : Fs w6 g11 (bRow d.b u) := f9; replace f10 := f10.ext hx2; (try replace hE := hE.trans hx2); replace hR := hR.extend hx2; clear hm3 f9 hx2 hg11 honeb)
        | ((with_reducible refine at_field ?_); refine w_fieldN (i := 0) (off := 0) (by kernel_rfl) (.tmp 10) _ rfl rfl rfl ?_)
        | ((with_reducible refine at_field ?_); refine w_fieldN (i := 2) (off := 2) (by kernel_rfl) (.tmp 10) _ rfl rfl rfl ?_)
        | ((with_reducible refine at_load ?_); refine w_loadN Try.stBlkN _ (bRow d.b u) rfl rfl rfl f10 rfl (blk_at d u t) ?_)
        | ((with_reducible refine at_load ?_); refine w_fload _ rfl rfl rfl f10 rfl (agg_of (by kernel_rfl)) ?_)
        | fail) <;> (try simp only [Act.put, List.setIfInBounds_toArray, List.set_cons_zero, List.set_cons_succ]))
      obtain ⟨cf, hcf0⟩ : ∃ cf, backN (TrS.path K2 (TrS.tip K2)) deep = cf := ⟨_, rfl⟩
      obtain ⟨UU, hUU0⟩ : ∃ UU, ids K2 T = UU := ⟨_, rfl⟩
      have hSl := hide_ (fun w' (h : Ext w9 w') => CSlot_any (hR.c.ext h))
      have hTr := hide_ (fun w' (h : Ext w9 w') => CTree_any (hR.c.ext h))
      have hTp := hide_ (fun w' (h : Ext w9 w') => hT.out ▸ Tip_any (hR.c.tr.ext h))
      have hCf := hide_ (fun w' (h : Ext w9 w') => hcf0 ▸ CConf_any (hR.c.ext h))
      have hRf := hide_ (fun w' (h : Ext w9 w') => hcf0 ▸ refCConf_any (vk := vk1) (vw := vw1) (dv := v0) (deep := deep) (slot := slot) hU2.out (hR.recK.ext BlkR.stays h) hlen2.out)
      have hTI := hide_ (show I64 T from hT.out ▸ hR.c.tipI)
      have hTx := hide_ (fun w' (h : Ext w9 w') => hUU0 ▸ CTxs_any (hR.c.ext h) hTI.out)
      have hRx := hide_ (fun w' (h : Ext w9 w') => hUU0 ▸ refCTxs_any (vk := vk1) (vw := vw1) (dv := v0) (deep := deep) (slot := slot) (n := T) hU2.out (hR.recK.ext BlkR.stays h))
      have f8 := hR.f8
      have hX := Ext.refl w9
      clear hcf0 hUU0
      refine wp_region_phx (by kernel_rfl) ?_; intro wd hxd; have F8 := f8.ext hxd
      refine Ph.rest 0 29 (by kernel_rfl) ?_
      refine LinL.step (s := (.val (.pointer (some ⟨q, 0, none⟩)))) [(7, none)] rfl (by kernel_rfl) (op_out 7 (.pointer (some ⟨q, 0, none⟩)) rfl (.inl rfl) rfl) ?_
      refine LinL.step (s := (.val (.int .i64 slot))) [(130, some 0)] rfl (by kernel_rfl) (op_calls 12 #[(.tmp 130)] #[22] (fun σ => #[.pointer (some ⟨q, 0, none⟩)]) rfl rfl (fun _ _ => rfl) fun σ w' hx hg => ⟨by have h130 : σ.tmps.getD 130 undef = .pointer (some ⟨q, 0, none⟩) := hg.1; simp only [List.map_toArray, List.map_cons, List.map_nil, Act.eval, h130], retH (hSl.out w' (hX.trans (hxd.trans hx)))⟩) ?_
      refine LinL.step (s := (.val (.pointer (some ⟨g8, 4, none⟩)))) [(8, none)] rfl (by kernel_rfl) (op_runs rfl fun σ w' hx hg => ⟨_, runs_fieldN (ρ := σ.eval) (w := w') (i := 3) (off := 4) (by kernel_rfl) (.tmp 8) g8 rfl hg.1, rfl⟩) ?_
      refine LinL.step (s := (.val (.int .i64 slot))) [(132, some 0)] rfl (by kernel_rfl) (op_runs rfl fun σ w' hx hg => ⟨_, runs_fload (ρ := σ.eval) (w := w') (.tmp 132) rfl hg.1 (agg_of (by kernel_rfl) _) (F8.ext hx) rfl, rfl⟩) ?_
      refine LinL.step (s := (.val (.bool false))) [(131, some 2), (133, some 0)] rfl (by kernel_rfl) (op_runs rfl fun σ w' hx hg => ⟨(.bool false), by have h131 : σ.tmps.getD 131 undef = .int .i64 slot := hg.1; have h133 : σ.tmps.getD 133 undef = .int .i64 slot := hg.2.1; unfold Runs execOp; simp [Act.eval, h131, h133, go_sem], rfl⟩) ?_
      refine LinL.step (s := (.val (.bool false))) [(134, some 0)] rfl (by kernel_rfl) (op_copy 134 0 (.val (.bool false)) rfl (.inl rfl) rfl) ?_
      refine LinL.step (s := (.val (.pointer (some ⟨q, 0, none⟩)))) [(7, none), (135, some 0)] rfl (by kernel_rfl) (op_yes (reads := [(7, none)]) 5 135 0 false rfl rfl rfl (op_out 7 (.pointer (some ⟨q, 0, none⟩)) rfl (.inl rfl) rfl)) ?_
      refine LinL.step (s := (.val (.pointer (some ⟨p, 0, none⟩)))) [(136, some 0), (135, some 1)] rfl (by kernel_rfl) (op_yes (reads := [(136, some 0)]) 5 135 1 false rfl rfl rfl (op_calls 23 #[(.tmp 136)] #[22] (fun σ => #[.pointer (some ⟨q, 0, none⟩)]) rfl rfl (fun _ _ => rfl) fun σ w' hx hg => ⟨by have h136 : σ.tmps.getD 136 undef = .pointer (some ⟨q, 0, none⟩) := hg.1; simp only [List.map_toArray, List.map_cons, List.map_nil, Act.eval, h136], retH (hTr.out w' (hX.trans (hxd.trans hx)))⟩)) ?_
      refine LinL.step (s := (.val (.int .i64 T))) [(137, some 0), (135, some 2)] rfl (by kernel_rfl) (op_yes (reads := [(137, some 0)]) 5 135 2 false rfl rfl rfl (op_calls 24 #[(.tmp 137)] #[53] (fun σ => #[.pointer (some ⟨p, 0, none⟩)]) rfl rfl (fun _ _ => rfl) fun σ w' hx hg => ⟨by have h137 : σ.tmps.getD 137 undef = .pointer (some ⟨p, 0, none⟩) := hg.1; simp only [List.map_toArray, List.map_cons, List.map_nil, Act.eval, h137], retH (hTp.out w' (hX.trans (hxd.trans hx)))⟩)) ?_
      refine LinL.step (s := (.val (.int .i64 T))) [(22, none), (135, some 3)] rfl (by kernel_rfl) (op_yes (reads := [(22, none)]) 5 135 3 false rfl rfl rfl (op_out 22 (.int .i64 T) rfl (.inl rfl) rfl)) ?_
      refine LinL.step (s := (.val (.bool false))) [(138, some 1), (139, some 0), (135, some 4)] rfl (by kernel_rfl) (op_yes (reads := [(138, some 1), (139, some 0)]) 5 135 4 false rfl rfl rfl (op_runs rfl fun σ w' hx hg => ⟨(.bool false), by have h138 : σ.tmps.getD 138 undef = .int .i64 T := hg.1; have h139 : σ.tmps.getD 139 undef = .int .i64 T := hg.2.1; unfold Runs execOp; simp [Act.eval, h138, h139, go_sem], rfl⟩)) ?_
      refine LinL.step (s := (.val (.bool false))) [(135, some 5), (140, some 0)] rfl (by kernel_rfl) (op_runs rfl fun σ w' hx hg => ⟨_, runs_pick_f (ρ := σ.eval) (w := w') (.tmp 135) (.const (.bool true)) (.tmp 140) rfl hg.1 hg.2.1, rfl⟩) ?_
      refine LinL.step (s := (.val (.bool false))) [(141, some 0)] rfl (by kernel_rfl) (op_copy 141 0 (.val (.bool false)) rfl (.inl rfl) rfl) ?_
      refine LinL.step (s := (.val (.pointer (some ⟨q, 0, none⟩)))) [(7, none), (142, some 0)] rfl (by kernel_rfl) (op_yes (reads := [(7, none)]) 12 142 0 false rfl rfl rfl (op_out 7 (.pointer (some ⟨q, 0, none⟩)) rfl (.inl rfl) rfl)) ?_
      refine LinL.step (s := (.val (.int .i64 cf))) [(143, some 0), (142, some 1)] rfl (by kernel_rfl) (op_yes (reads := [(143, some 0)]) 12 142 1 false rfl rfl rfl (op_calls 11 #[(.tmp 143)] #[22] (fun σ => #[.pointer (some ⟨q, 0, none⟩)]) rfl rfl (fun _ _ => rfl) fun σ w' hx hg => ⟨by have h143 : σ.tmps.getD 143 undef = .pointer (some ⟨q, 0, none⟩) := hg.1; simp only [List.map_toArray, List.map_cons, List.map_nil, Act.eval, h143], retH (hCf.out w' (hX.trans (hxd.trans hx)))⟩)) ?_
      refine LinL.step (s := (.val (.agg #[vk1, vw1, v0, .int .i64 deep, .int .i64 slot]))) [(8, none), (142, some 2)] rfl (by kernel_rfl) (op_yes (reads := [(8, none)]) 12 142 2 false rfl rfl rfl (op_runs rfl fun σ w' hx hg => ⟨_, runs_loadN (ρ := σ.eval) (w := w') Try.stDocC (.tmp 8) (us := cRow vk1 vw1 v0 deep slot) rfl hg.1 (F8.ext hx) rfl self_at, rfl⟩)) ?_
      refine LinL.step (s := (.val (.int .i64 cf))) [(145, some 0), (142, some 3)] rfl (by kernel_rfl) (op_yes (reads := [(145, some 0)]) 12 142 3 false rfl rfl rfl (op_calls 25 #[(.tmp 145)] #[39] (fun σ => #[.agg #[vk1, vw1, v0, .int .i64 deep, .int .i64 slot]]) rfl rfl (fun _ _ => rfl) fun σ w' hx hg => ⟨by have h145 : σ.tmps.getD 145 undef = .agg #[vk1, vw1, v0, .int .i64 deep, .int .i64 slot] := hg.1; simp only [List.map_toArray, List.map_cons, List.map_nil, Act.eval, h145], retH (hRf.out w' (hX.trans (hxd.trans hx)))⟩)) ?_
      refine LinL.step (s := (.val (.bool false))) [(144, some 2), (146, some 0), (142, some 4)] rfl (by kernel_rfl) (op_yes (reads := [(144, some 2), (146, some 0)]) 12 142 4 false rfl rfl rfl (op_runs rfl fun σ w' hx hg => ⟨(.bool false), by have h144 : σ.tmps.getD 144 undef = .int .i64 cf := hg.1; have h146 : σ.tmps.getD 146 undef = .int .i64 cf := hg.2.1; unfold Runs execOp; simp [Act.eval, h144, h146, go_sem], rfl⟩)) ?_
      refine LinL.step (s := (.val (.bool false))) [(142, some 5), (147, some 0)] rfl (by kernel_rfl) (op_runs rfl fun σ w' hx hg => ⟨_, runs_pick_f (ρ := σ.eval) (w := w') (.tmp 142) (.const (.bool true)) (.tmp 147) rfl hg.1 hg.2.1, rfl⟩) ?_
      refine LinL.step (s := (.val (.bool false))) [(148, some 0)] rfl (by kernel_rfl) (op_copy 148 0 (.val (.bool false)) rfl (.inl rfl) rfl) ?_
      refine LinL.step (s := (.val (.pointer (some ⟨q, 0, none⟩)))) [(7, none), (149, some 0)] rfl (by kernel_rfl) (op_yes (reads := [(7, none)]) 19 149 0 false rfl rfl rfl (op_out 7 (.pointer (some ⟨q, 0, none⟩)) rfl (.inl rfl) rfl)) ?_
      refine LinL.step (s := (.val (.int .i64 T))) [(22, none), (149, some 1)] rfl (by kernel_rfl) (op_yes (reads := [(22, none)]) 19 149 1 false rfl rfl rfl (op_out 22 (.int .i64 T) rfl (.inl rfl) rfl)) ?_
      refine LinL.step (s := (.sl (i64s UU))) [(150, some 1), (151, some 0), (149, some 2)] rfl (by kernel_rfl) (op_yes (reads := [(150, some 1), (151, some 0)]) 19 149 2 false rfl rfl rfl (op_calls 26 #[(.tmp 150), (.tmp 151)] #[22, 3] (fun σ => #[.pointer (some ⟨q, 0, none⟩), .int .i64 T]) rfl rfl (fun _ _ => rfl) fun σ w' hx hg => ⟨by have h150 : σ.tmps.getD 150 undef = .pointer (some ⟨q, 0, none⟩) := hg.1; have h151 : σ.tmps.getD 151 undef = .int .i64 T := hg.2.1; simp only [List.map_toArray, List.map_cons, List.map_nil, Act.eval, h150, h151], retSl (hTx.out w' (hX.trans (hxd.trans hx)))⟩)) ?_
      refine LinL.step (s := (.val (.agg #[vk1, vw1, v0, .int .i64 deep, .int .i64 slot]))) [(8, none), (149, some 3)] rfl (by kernel_rfl) (op_yes (reads := [(8, none)]) 19 149 3 false rfl rfl rfl (op_runs rfl fun σ w' hx hg => ⟨_, runs_loadN (ρ := σ.eval) (w := w') Try.stDocC (.tmp 8) (us := cRow vk1 vw1 v0 deep slot) rfl hg.1 (F8.ext hx) rfl self_at, rfl⟩)) ?_
      refine LinL.step (s := (.val (.int .i64 T))) [(22, none), (149, some 4)] rfl (by kernel_rfl) (op_yes (reads := [(22, none)]) 19 149 4 false rfl rfl rfl (op_out 22 (.int .i64 T) rfl (.inl rfl) rfl)) ?_
      refine LinL.step (s := (.sl (i64s UU))) [(153, some 1), (154, some 0), (149, some 5)] rfl (by kernel_rfl) (op_yes (reads := [(153, some 1), (154, some 0)]) 19 149 5 false rfl rfl rfl (op_calls 27 #[(.tmp 153), (.tmp 154)] #[39, 3] (fun σ => #[.agg #[vk1, vw1, v0, .int .i64 deep, .int .i64 slot], .int .i64 T]) rfl rfl (fun _ _ => rfl) fun σ w' hx hg => ⟨by have h153 : σ.tmps.getD 153 undef = .agg #[vk1, vw1, v0, .int .i64 deep, .int .i64 slot] := hg.1; have h154 : σ.tmps.getD 154 undef = .int .i64 T := hg.2.1; simp only [List.map_toArray, List.map_cons, List.map_nil, Act.eval, h153, h154], retSl (hRx.out w' (hX.trans (hxd.trans hx)))⟩)) ?_
      refine LinL.step (s := (.val (.bool true))) [(152, some 3), (155, some 0), (149, some 6)] rfl (by kernel_rfl) (op_yes (reads := [(152, some 3), (155, some 0)]) 19 149 6 false rfl rfl rfl (op_calls 21 #[(.tmp 152), (.tmp 155)] #[24, 24] (fun σ => #[σ.tmps.getD 152 undef, σ.tmps.getD 155 undef]) rfl rfl (fun _ _ => rfl) fun σ w' hx hg => ⟨by skip; simp only [List.map_toArray, List.map_cons, List.map_nil, Act.eval], retH (SameInts_any _ _ UU _ hg.1 hg.2.1)⟩)) ?_
      refine LinL.step (s := (.val (.bool false))) [(156, some 0), (149, some 7)] rfl (by kernel_rfl) (op_yes (reads := [(156, some 0)]) 19 149 7 false rfl rfl rfl (op_runs rfl fun σ w' hx hg => ⟨(.bool false), by have h156 : σ.tmps.getD 156 undef = .bool true := hg.1; unfold Runs execOp; simp [Act.eval, h156, go_sem], rfl⟩)) ?_
      refine LinL.step (s := (.val (.bool false))) [(149, some 8), (157, some 0)] rfl (by kernel_rfl) (op_runs rfl fun σ w' hx hg => ⟨_, runs_pick_f (ρ := σ.eval) (w := w') (.tmp 149) (.const (.bool true)) (.tmp 157) rfl hg.1 hg.2.1, rfl⟩) ?_
      intro wN hxN
      simp only [Fin', List.reverse_cons, List.reverse_nil, List.nil_append, List.cons_append, List.drop_zero, List.take_succ_cons, List.take_zero]
      intro q152 hq152 q155 hq155
      simp only [Act.put, List.setIfInBounds_toArray, List.set_cons_zero, List.set_cons_succ]
      replace hX := hX.trans (hxd.trans hxN)
      replace hR := hR.extend hX
      clear hxd hxN F8 f8 hX hSl hTr hTp hCf hRf hTI hTx hRx
      go_wp2
      go_roundw
      case rel => exact ⟨k + 1, H2, K2, V2, slot, vk1, vw1, by go_num, hlt'.out, hR, hgo2.out⟩
      case measure => have := hlt'.out; simp [RowKit.intOf]; omega
    obtain ⟨ok1, hok10⟩ : ∃ R, mkOk l0 slot d.n K d.txs = R := ⟨_, rfl⟩
    obtain ⟨b1, hb10⟩ : ∃ R, mkD l0 slot d.n K d.txs = R := ⟨_, rfl⟩
    have hok1 := hide_ hok10
    have hb1 := hide_ hb10
    have hR0 := hide_ hR
    have hE := Ext.refl wr
    cases ok1
    · obtain ⟨T, hT0⟩ : ∃ T, TrS.tip K = T := ⟨_, rfl⟩
      have hT := hide_ hT0
      have hU2 := hU1
      have hlen2 := hlen1
      replace hgo := hide_ hgo
      clear hge hlt hd0 hok10 hb10 hT0 hfewd hrawd
      go_wp2_with ((first
        | ((with_reducible refine at_idx ?_); refine w_actidx Try.elAC _ _ k rfl rfl rfl rfl hl0.out hR.out.ext hd.out ?_; intro pa u t hrow hu0 ht1; have hone := hide_ (actc_one (d := d) hu0 ht1); have honeb := hide_ (blk_one (a := d.b.slot) (b := d.b.miner) (c := d.b.var) (d := d.b.parent) hu0.one'); replace hrow := hide_ hrow; have hu := hide_ hu0; have htt := hide_ ht1; clear hu0 ht1)
        | ((with_reducible refine at_load ?_); refine w_ploadN Try.stAC _ rfl rfl rfl hrow.out rfl ?_)
        | ((with_reducible refine at_alloc ?_); have _t := hone; refine w_allocN Try.stAC rfl rfl ?_; intro g10 w3 hg10 hx2 f10; have n10 := hide_ (hR.fresh hg10))
        | ((with_reducible refine at_store ?_); refine w_astoreN Try.stAC (.tmp 10) _ (us := aRow d u t) rfl rfl rfl rfl rfl f10 rfl rfl hone.out ?_; intro w4 hm3 f9; replace hx2 := hm3.after hx2 (fun i hi => by subst hi; exact hg10); replace f10 : Fs w4 g10 (aRow d u t) := f9; (try replace hE := hE.trans hx2); replace hR := hR.extend hx2; clear hm3 f9 hx2 hg10 hone)
        | ((with_reducible refine at_alloc ?_); have _t := honeb; refine w_alloc Try.stBlk rfl rfl ?_; intro g11 w5 hg11 hx2 f11; have n11 := hide_ (hR.fresh hg11); (try have hg11r := hide_ (Nat.le_trans hE.size hg11)); have h1011 := hide_ (show ¬ g10 = g11 from fun e => by have := f10.lt; omega))
        | ((with_reducible refine at_store ?_); have _t := honeb; refine w_astore Try.stBlk (.tmp 11) _ (us := bRow d.b u) rfl rfl rfl rfl rfl f11 rfl rfl honeb.out ?_; intro w6 hm3 f9; replace hx2 := hm3.after hx2 (fun i hi => by subst hi; exact hg11); replace f11 : Fs w6 g11 (bRow d.b u) := f9; replace f10 := f10.ext hx2; (try replace hE := hE.trans hx2); replace hR := hR.extend hx2; clear hm3 f9 hx2 hg11 honeb)
        | ((with_reducible refine at_field ?_); refine w_fieldN (i := 0) (off := 0) (by kernel_rfl) (.tmp 10) _ rfl rfl rfl ?_)
        | ((with_reducible refine at_field ?_); refine w_fieldN (i := 2) (off := 2) (by kernel_rfl) (.tmp 10) _ rfl rfl rfl ?_)
        | ((with_reducible refine at_load ?_); refine w_loadN Try.stBlkN _ (bRow d.b u) rfl rfl rfl f10 rfl (blk_at d u t) ?_)
        | ((with_reducible refine at_load ?_); refine w_fload _ rfl rfl rfl f10 rfl (agg_of (by kernel_rfl)) ?_)
        | fail) <;> (try simp only [Act.put, List.setIfInBounds_toArray, List.set_cons_zero, List.set_cons_succ]))
      have hMk := hide_ (fun w' (h : Ext w6 w') v (hv : Recs 2 TxR w' v d.txs) => (show Calls Try.prog 16 #[.pointer (some ⟨q, 0, none⟩), .int .i64 d.n, v] w' fun e w'' => ∃ u, e = .returned (.tuple #[.agg (bRow b1 u).toArray, .bool false]) ∧ OwnT w'.heap.size w'' u b1.txs ∧ Ext w' w'' from by
        have := CMake_any (me := d.n) (hR.c.ext h) hv
        rw [hb1.out, hok1.out] at this; exact this))
      have htrow := hide_ (fun w' (h : Ext w6 w') => (recs_rows (htt.out.ext TxR.stays (hR.out.ext.trans h))).1)
      have htraw := hide_ (recs_rows htt.out).2
      have htbig := hide_ (show (d.txs.map TxD.row).length * 16 ≤ 140737488355328 from by rw [List.length_map]; exact hok.out.few2)
      refine wp_region_vw [0, 1, 2, 3, 4, 5, 6, 7, 8, 9, 10, 11, 13] (fun i => [72, 73, 74, 75, 76, 77, 78, 79, 71, 80, 81, 13, 0, 14].getD i 0) (V16 w6.heap.size q g10 d.n t d.txs b1 false) 11 12 zB (fun cs w => ∃ u13, cs = bRow b1 u13 ∧ OwnT w6.heap.size w u13 b1.txs) V16.ext V16.store (fun cs w w' ⟨u, h1, h2⟩ he => ⟨u, h1, h2.ext he⟩) (by kernel_rfl) (by kernel_rfl) (by kernel_rfl) (by decide) (by decide) (by decide) (by intro i hi; show _ < 160; revert i; decide) (by kernel_rfl) (by decide) (by kernel_rfl) ?_ ?_ ?_ ?_
      · intro i hi ha b w' hx hout hdep
        rcases (show i = 0 ∨ i = 1 ∨ i = 2 ∨ i = 3 ∨ i = 4 ∨ i = 5 ∨ i = 6 ∨ i = 7 ∨ i = 8 ∨ i = 9 ∨ i = 10 ∨ i = 13 by simp at hi; omega) with rfl | rfl | rfl | rfl | rfl | rfl | rfl | rfl | rfl | rfl | rfl | rfl
        · have e7 : b.tmps.getD 7 undef = .pointer (some ⟨q, 0, none⟩) := hout 7 (by decide)
          refine wpOp_of_list rfl ?_
          refine w_mvH (.tmp 7) rfl (.inl rfl) e7 ?_
          exact ⟨_, rfl, rfl, Ext.refl _⟩
        · have e10 : b.tmps.getD 10 undef = .pointer (some ⟨g10, 0, none⟩) := hout 10 (by decide)
          refine wpOp_of_list rfl ?_
          refine w_fieldN (i := 1) (off := 1) (by kernel_rfl) (.tmp 10) g10 rfl rfl e10 ?_
          exact ⟨_, rfl, rfl, Ext.refl _⟩
        · have e1 : b.tmps.getD 73 undef = .pointer (some ⟨g10, 1, none⟩) := hdep 1 (by decide) (by decide) (by kernel_rfl)
          refine wpOp_of_list rfl ?_
          refine w_fload (.tmp 73) (i := 1) (u := .int .i64 d.n) rfl rfl e1 (f10.ext hx) rfl (agg_of (by kernel_rfl)) ?_
          exact ⟨_, rfl, rfl, Ext.refl _⟩
        · refine wpOp_of_list rfl ?_
          refine w_nempty0 Try.elTxN rfl rfl ?_
          intro ad w2 hx2
          exact ⟨_, rfl, ⟨ad, rfl⟩, hx2⟩
        · have e10 : b.tmps.getD 10 undef = .pointer (some ⟨g10, 0, none⟩) := hout 10 (by decide)
          refine wpOp_of_list rfl ?_
          refine w_fieldN (i := 3) (off := 7) (by kernel_rfl) (.tmp 10) g10 rfl rfl e10 ?_
          exact ⟨_, rfl, rfl, Ext.refl _⟩
        · have e4 : b.tmps.getD 76 undef = .pointer (some ⟨g10, 7, none⟩) := hdep 4 (by decide) (by decide) (by kernel_rfl)
          refine wpOp_of_list rfl ?_
          refine w_fload (.tmp 76) (i := 7) (u := t) rfl rfl e4 (f10.ext hx) rfl (agg_of (by kernel_rfl)) ?_
          exact ⟨_, rfl, rfl, Ext.refl _⟩
        · obtain ⟨ad, e3⟩ : ∃ ad, b.tmps.getD 75 undef = .slice (some ad) 0 0 := hdep 3 (by decide) (by decide) (by kernel_rfl)
          have e5 : b.tmps.getD 77 undef = t := hdep 5 (by decide) (by decide) (by kernel_rfl)
          refine wpOp_of_list rfl ?_
          refine w_nclone0 Try.elTxN (.tmp 75) (.tmp 77) (ad := ad) (s := t) (ys := d.txs.map TxD.row) rfl rfl e3 e5 (htrow.out _ hx) htbig.out ?_
          intro v' w2 hx2 hv
          refine ⟨_, rfl, ?_, hx2⟩
          rcases hv with ⟨h1, h2⟩ | h1
          · exact .inl ⟨List.map_eq_nil_iff.1 h1, ad, h2⟩
          · exact .inr (OwnT.of h1 htraw.out fun k hk => Nat.le_trans hx.size hk)
        · have e0 : b.tmps.getD 72 undef = .pointer (some ⟨q, 0, none⟩) := hdep 0 (by decide) (by decide) (by kernel_rfl)
          have e2 : b.tmps.getD 74 undef = .int .i64 d.n := hdep 2 (by decide) (by decide) (by kernel_rfl)
          have e6 : TxE w6.heap.size w' (b.tmps.getD 78 undef) d.txs := hdep 6 (by decide) (by decide) (by kernel_rfl)
          refine wpOp_call 16 #[.pointer (some ⟨q, 0, none⟩), .int .i64 d.n, b.tmps.getD 78 undef] 79 rfl rfl rfl rfl (fun _ _ => rfl) (by simp only [List.map_toArray, List.map_cons, List.map_nil, Act.eval, e0, e2]) ?_
          refine (hMk.out w' hx _ e6.recs).mono ?_
          rintro e w2 ⟨u13, rfl, o13, hx2⟩
          exact ⟨_, rfl, _, rfl, ⟨u13, rfl, o13.mono hx.size⟩, hx2⟩
        · obtain ⟨u', hu', hr'⟩ := hdep 7 (by decide) (by decide) (by kernel_rfl)
          refine wpOp_of_list rfl ?_
          refine w_mvH (.tmp 79) rfl (.inl rfl) hu' ?_
          exact ⟨_, rfl, ⟨u', rfl, hr'⟩, Ext.refl _⟩
        · obtain ⟨u', hu', hr'⟩ := hdep 8 (by decide) (by decide) (by kernel_rfl)
          refine wpOp_of_list rfl ?_
          refine wpList_runs rfl (runs_extract rfl hu' rfl) ?_
          exact ⟨_, rfl, ⟨u', rfl, hr'⟩, Ext.refl _⟩
        · obtain ⟨u', hu', hr'⟩ := hdep 8 (by decide) (by decide) (by kernel_rfl)
          refine wpOp_of_list rfl ?_
          refine wpList_runs rfl (runs_extract rfl hu' rfl) ?_
          exact ⟨_, rfl, rfl, Ext.refl _⟩
        · have e9 : b.tmps.getD 81 undef = .bool false := hdep 10 (by decide) (by decide) (by kernel_rfl)
          refine wpOp_of_list rfl ?_
          refine w_mvH (.tmp 81) rfl (.inr rfl) e9 ?_
          exact ⟨_, rfl, rfl, Ext.refl _⟩
      · intro b w'
        refine wpOp_of_list rfl ?_
        refine w_alloc Try.stBlk rfl rfl ?_
        intro g w2 hg hx f
        exact ⟨g, rfl, hg, hx, f⟩
      · intro b w' g hx e13 f hdep
        obtain ⟨u', hu', hr'⟩ := hdep 9 (by decide) (by decide) (by kernel_rfl)
        refine wpOp_of_list rfl ?_
        refine w_astore Try.stBlk (.tmp 13) (.tmp 80) (us := bRow b1 u') rfl rfl rfl e13 hu' f rfl rfl (blk_one (a := b1.slot) (b := b1.miner) (c := b1.var) (d := b1.parent) hr'.recs.one') ?_
        intro w2 hm f2
        exact ⟨_, rfl, hm, f2, u', rfl, hr'.mod hm (hr'.ne_fs f)⟩
      intro wG x hx hv hc
      obtain ⟨g13, cs, e13, hg13, f13, u13, rfl, o13⟩ := hc
      have e14 : x 13 = .bool false := hv 13 (by decide) (by decide)
      simp only [List.foldl_cons, List.foldl_nil, e13, e14]
      generalize x 0 = x0
      generalize x 1 = x1
      generalize x 2 = x2
      generalize x 3 = x3
      generalize x 4 = x4
      generalize x 5 = x5
      generalize x 6 = x6
      generalize x 7 = x7
      generalize x 8 = x8
      generalize x 9 = x9
      generalize x 10 = x10
      simp only [List.getD_cons_zero, List.getD_cons_succ, Act.put, List.setIfInBounds_toArray, List.set_cons_zero, List.set_cons_succ]
      clear hv hg13 hMk htrow htraw htbig
      replace hE := hE.trans hx
      replace hR := hR.extend hx
      replace f10 := f10.ext hx
      replace f11 := f11.ext hx
      clear hx
      go_wp2_with ((first
        | (go_at_call 17; refine (refCMake_any (me := d.n) (txs := d.txs) hU1.out hSt1.out hR.recK hlen1.out (h0.out.ext hR.out.ext) hD.out (htt.out.ext TxR.stays hR.out.ext)).mono ?_; rintro e wM ⟨u15, rfl, o15, hx⟩; rw [hb1.out] at o15; rw [hb1.out, hok1.out]; have n15 := hide_ (fun k (hk : u15.ownBlock = some k) => hR.fresh (o15.new k hk)); have o11 := hide_ (show ¬ u15.ownBlock = some g11 from fun e => by have h1 := o15.new g11 e; have h2 := f11.lt; omega); have one15 := hide_ (blk_one (a := b1.slot) (b := b1.miner) (c := b1.var) (d := b1.parent) o15.recs.one'); replace f10 := f10.ext hx; replace f11 := f11.ext hx; replace f13 := f13.ext hx; replace o13 := o13.ext hx; (try replace hE := hE.trans hx); replace hR := hR.extend hx; clear hx)
        | (go_at_call 18; refine (refBSame_any (b := b1) (b2 := b1) (u := u13) (u2 := u15) o13.recs o15.recs).mono ?_; rintro e wP ⟨rfl, hx⟩; rw [BlkD.same_self]; replace f11 := f11.ext hx; replace f15 := f15.ext hx; replace o15 := o15.ext hx; (try replace hE := hE.trans hx); replace hR := hR.extend hx; clear hx f13 o13)
        | (go_at_call 22; refine (refTip_any hU2.out hR.recK hlen2.out).mono ?_; rintro e w9 ⟨rfl, hx⟩; rw [hT.out]; (try replace hE := hE.trans hx); replace hR := hR.extend hx; clear hx)
        | ((with_reducible refine at_alloc ?_); have _t := one15; refine w_alloc Try.stBlk rfl rfl ?_; intro g15 wN hg15 hx2 f15)
        | ((with_reducible refine at_store ?_); refine w_astore Try.stBlk (.tmp 15) _ (us := bRow b1 u15) rfl rfl rfl rfl rfl f15 rfl rfl one15.out ?_; intro wO hm3 f9; replace hx2 := hm3.after hx2 (fun i hi => by subst hi; exact hg15); replace f15 : Fs wO g15 (bRow b1 u15) := f9; have h1115 := hide_ (show ¬ g15 = g11 from fun e => by have := f11.lt; omega); replace f11 := f11.ext hx2; replace f13 := f13.ext hx2; replace o13 := o13.ext hx2; replace o15 := o15.ext hx2; (try replace hE := hE.trans hx2); replace hR := hR.extend hx2; clear hm3 f9 hx2 hg15)
        | ((with_reducible refine at_store ?_); have _t := f15; refine w_astore Try.stBlk (.tmp 11) _ (us := bRow b1 u15) rfl rfl rfl rfl rfl f11 rfl rfl one15.out ?_; intro wQ hm3 f9; replace hR := hR0.out.extend (hm3.after hE (fun i hi => by subst hi; exact hg11r.out)); clear hE; clear hm3 f9 f11 f15)
        | ((with_reducible refine at_field ?_); refine w_fieldN (i := 1) (off := 1) (by kernel_rfl) (.tmp 10) _ rfl rfl rfl ?_)
        | ((with_reducible refine at_field ?_); refine w_fieldN (i := 3) (off := 7) (by kernel_rfl) (.tmp 10) _ rfl rfl rfl ?_)
        | ((with_reducible refine at_field ?_); refine w_fieldN (i := 0) (off := 0) (by kernel_rfl) (.tmp 8) _ rfl rfl rfl ?_)
        | ((with_reducible refine at_load ?_); refine w_loadN Try.stDocC (.tmp 8) (cRow vk vw v0 deep slot) rfl rfl rfl hR.f8 rfl self_at ?_)
        | ((with_reducible refine at_load ?_); refine w_loadN Try.stDocT _ [vk, vw] rfl rfl rfl hR.f8 rfl (tree_at _ _ _ _ _) ?_)
        | ((with_reducible refine at_load ?_); (try refine w_yes _ _ _ rfl rfl rfl ?_); refine w_aload Try.stBlk (.tmp 13) rfl rfl rfl f13 rfl ?_)
        | ((with_reducible refine at_load ?_); (try refine w_yes _ _ _ rfl rfl rfl ?_); refine w_aload Try.stBlk (.tmp 15) rfl rfl rfl f15 rfl ?_)
        | ((with_reducible refine at_load ?_); refine w_fload _ rfl rfl rfl f10 rfl (agg_of (by kernel_rfl)) ?_)
        | fail) <;> (try simp only [Act.put, List.setIfInBounds_toArray, List.set_cons_zero, List.set_cons_succ]))
      obtain ⟨cf, hcf0⟩ : ∃ cf, backN (TrS.path K (TrS.tip K)) deep = cf := ⟨_, rfl⟩
      obtain ⟨UU, hUU0⟩ : ∃ UU, ids K T = UU := ⟨_, rfl⟩
      have hSl := hide_ (fun w' (h : Ext w9 w') => CSlot_any (hR.c.ext h))
      have hTr := hide_ (fun w' (h : Ext w9 w') => CTree_any (hR.c.ext h))
      have hTp := hide_ (fun w' (h : Ext w9 w') => hT.out ▸ Tip_any (hR.c.tr.ext h))
      have hCf := hide_ (fun w' (h : Ext w9 w') => hcf0 ▸ CConf_any (hR.c.ext h))
      have hRf := hide_ (fun w' (h : Ext w9 w') => hcf0 ▸ refCConf_any (vk := vk) (vw := vw) (dv := v0) (deep := deep) (slot := slot) hU2.out (hR.recK.ext BlkR.stays h) hlen2.out)
      have hTI := hide_ (show I64 T from hT.out ▸ hR.c.tipI)
      have hTx := hide_ (fun w' (h : Ext w9 w') => hUU0 ▸ CTxs_any (hR.c.ext h) hTI.out)
      have hRx := hide_ (fun w' (h : Ext w9 w') => hUU0 ▸ refCTxs_any (vk := vk) (vw := vw) (dv := v0) (deep := deep) (slot := slot) (n := T) hU2.out (hR.recK.ext BlkR.stays h))
      have f8 := hR.f8
      have hX := Ext.refl w9
      clear hcf0 hUU0
      refine wp_region_phx (by kernel_rfl) ?_; intro wd hxd; have F8 := f8.ext hxd
      refine Ph.rest 0 29 (by kernel_rfl) ?_
      refine LinL.step (s := (.val (.pointer (some ⟨q, 0, none⟩)))) [(7, none)] rfl (by kernel_rfl) (op_out 7 (.pointer (some ⟨q, 0, none⟩)) rfl (.inl rfl) rfl) ?_
      refine LinL.step (s := (.val (.int .i64 slot))) [(130, some 0)] rfl (by kernel_rfl) (op_calls 12 #[(.tmp 130)] #[22] (fun σ => #[.pointer (some ⟨q, 0, none⟩)]) rfl rfl (fun _ _ => rfl) fun σ w' hx hg => ⟨by have h130 : σ.tmps.getD 130 undef = .pointer (some ⟨q, 0, none⟩) := hg.1; simp only [List.map_toArray, List.map_cons, List.map_nil, Act.eval, h130], retH (hSl.out w' (hX.trans (hxd.trans hx)))⟩) ?_
      refine LinL.step (s := (.val (.pointer (some ⟨g8, 4, none⟩)))) [(8, none)] rfl (by kernel_rfl) (op_runs rfl fun σ w' hx hg => ⟨_, runs_fieldN (ρ := σ.eval) (w := w') (i := 3) (off := 4) (by kernel_rfl) (.tmp 8) g8 rfl hg.1, rfl⟩) ?_
      refine LinL.step (s := (.val (.int .i64 slot))) [(132, some 0)] rfl (by kernel_rfl) (op_runs rfl fun σ w' hx hg => ⟨_, runs_fload (ρ := σ.eval) (w := w') (.tmp 132) rfl hg.1 (agg_of (by kernel_rfl) _) (F8.ext hx) rfl, rfl⟩) ?_
      refine LinL.step (s := (.val (.bool false))) [(131, some 2), (133, some 0)] rfl (by kernel_rfl) (op_runs rfl fun σ w' hx hg => ⟨(.bool false), by have h131 : σ.tmps.getD 131 undef = .int .i64 slot := hg.1; have h133 : σ.tmps.getD 133 undef = .int .i64 slot := hg.2.1; unfold Runs execOp; simp [Act.eval, h131, h133, go_sem], rfl⟩) ?_
      refine LinL.step (s := (.val (.bool false))) [(134, some 0)] rfl (by kernel_rfl) (op_copy 134 0 (.val (.bool false)) rfl (.inl rfl) rfl) ?_
      refine LinL.step (s := (.val (.pointer (some ⟨q, 0, none⟩)))) [(7, none), (135, some 0)] rfl (by kernel_rfl) (op_yes (reads := [(7, none)]) 5 135 0 false rfl rfl rfl (op_out 7 (.pointer (some ⟨q, 0, none⟩)) rfl (.inl rfl) rfl)) ?_
      refine LinL.step (s := (.val (.pointer (some ⟨p, 0, none⟩)))) [(136, some 0), (135, some 1)] rfl (by kernel_rfl) (op_yes (reads := [(136, some 0)]) 5 135 1 false rfl rfl rfl (op_calls 23 #[(.tmp 136)] #[22] (fun σ => #[.pointer (some ⟨q, 0, none⟩)]) rfl rfl (fun _ _ => rfl) fun σ w' hx hg => ⟨by have h136 : σ.tmps.getD 136 undef = .pointer (some ⟨q, 0, none⟩) := hg.1; simp only [List.map_toArray, List.map_cons, List.map_nil, Act.eval, h136], retH (hTr.out w' (hX.trans (hxd.trans hx)))⟩)) ?_
      refine LinL.step (s := (.val (.int .i64 T))) [(137, some 0), (135, some 2)] rfl (by kernel_rfl) (op_yes (reads := [(137, some 0)]) 5 135 2 false rfl rfl rfl (op_calls 24 #[(.tmp 137)] #[53] (fun σ => #[.pointer (some ⟨p, 0, none⟩)]) rfl rfl (fun _ _ => rfl) fun σ w' hx hg => ⟨by have h137 : σ.tmps.getD 137 undef = .pointer (some ⟨p, 0, none⟩) := hg.1; simp only [List.map_toArray, List.map_cons, List.map_nil, Act.eval, h137], retH (hTp.out w' (hX.trans (hxd.trans hx)))⟩)) ?_
      refine LinL.step (s := (.val (.int .i64 T))) [(22, none), (135, some 3)] rfl (by kernel_rfl) (op_yes (reads := [(22, none)]) 5 135 3 false rfl rfl rfl (op_out 22 (.int .i64 T) rfl (.inl rfl) rfl)) ?_
      refine LinL.step (s := (.val (.bool false))) [(138, some 1), (139, some 0), (135, some 4)] rfl (by kernel_rfl) (op_yes (reads := [(138, some 1), (139, some 0)]) 5 135 4 false rfl rfl rfl (op_runs rfl fun σ w' hx hg => ⟨(.bool false), by have h138 : σ.tmps.getD 138 undef = .int .i64 T := hg.1; have h139 : σ.tmps.getD 139 undef = .int .i64 T := hg.2.1; unfold Runs execOp; simp [Act.eval, h138, h139, go_sem], rfl⟩)) ?_
      refine LinL.step (s := (.val (.bool false))) [(135, some 5), (140, some 0)] rfl (by kernel_rfl) (op_runs rfl fun σ w' hx hg => ⟨_, runs_pick_f (ρ := σ.eval) (w := w') (.tmp 135) (.const (.bool true)) (.tmp 140) rfl hg.1 hg.2.1, rfl⟩) ?_
      refine LinL.step (s := (.val (.bool false))) [(141, some 0)] rfl (by kernel_rfl) (op_copy 141 0 (.val (.bool false)) rfl (.inl rfl) rfl) ?_
      refine LinL.step (s := (.val (.pointer (some ⟨q, 0, none⟩)))) [(7, none), (142, some 0)] rfl (by kernel_rfl) (op_yes (reads := [(7, none)]) 12 142 0 false rfl rfl rfl (op_out 7 (.pointer (some ⟨q, 0, none⟩)) rfl (.inl rfl) rfl)) ?_
      refine LinL.step (s := (.val (.int .i64 cf))) [(143, some 0), (142, some 1)] rfl (by kernel_rfl) (op_yes (reads := [(143, some 0)]) 12 142 1 false rfl rfl rfl (op_calls 11 #[(.tmp 143)] #[22] (fun σ => #[.pointer (some ⟨q, 0, none⟩)]) rfl rfl (fun _ _ => rfl) fun σ w' hx hg => ⟨by have h143 : σ.tmps.getD 143 undef = .pointer (some ⟨q, 0, none⟩) := hg.1; simp only [List.map_toArray, List.map_cons, List.map_nil, Act.eval, h143], retH (hCf.out w' (hX.trans (hxd.trans hx)))⟩)) ?_
      refine LinL.step (s := (.val (.agg #[vk, vw, v0, .int .i64 deep, .int .i64 slot]))) [(8, none), (142, some 2)] rfl (by kernel_rfl) (op_yes (reads := [(8, none)]) 12 142 2 false rfl rfl rfl (op_runs rfl fun σ w' hx hg => ⟨_, runs_loadN (ρ := σ.eval) (w := w') Try.stDocC (.tmp 8) (us := cRow vk vw v0 deep slot) rfl hg.1 (F8.ext hx) rfl self_at, rfl⟩)) ?_
      refine LinL.step (s := (.val (.int .i64 cf))) [(145, some 0), (142, some 3)] rfl (by kernel_rfl) (op_yes (reads := [(145, some 0)]) 12 142 3 false rfl rfl rfl (op_calls 25 #[(.tmp 145)] #[39] (fun σ => #[.agg #[vk, vw, v0, .int .i64 deep, .int .i64 slot]]) rfl rfl (fun _ _ => rfl) fun σ w' hx hg => ⟨by have h145 : σ.tmps.getD 145 undef = .agg #[vk, vw, v0, .int .i64 deep, .int .i64 slot] := hg.1; simp only [List.map_toArray, List.map_cons, List.map_nil, Act.eval, h145], retH (hRf.out w' (hX.trans (hxd.trans hx)))⟩)) ?_
      refine LinL.step (s := (.val (.bool false))) [(144, some 2), (146, some 0), (142, some 4)] rfl (by kernel_rfl) (op_yes (reads := [(144, some 2), (146, some 0)]) 12 142 4 false rfl rfl rfl (op_runs rfl fun σ w' hx hg => ⟨(.bool false), by have h144 : σ.tmps.getD 144 undef = .int .i64 cf := hg.1; have h146 : σ.tmps.getD 146 undef = .int .i64 cf := hg.2.1; unfold Runs execOp; simp [Act.eval, h144, h146, go_sem], rfl⟩)) ?_
      refine LinL.step (s := (.val (.bool false))) [(142, some 5), (147, some 0)] rfl (by kernel_rfl) (op_runs rfl fun σ w' hx hg => ⟨_, runs_pick_f (ρ := σ.eval) (w := w') (.tmp 142) (.const (.bool true)) (.tmp 147) rfl hg.1 hg.2.1, rfl⟩) ?_
      refine LinL.step (s := (.val (.bool false))) [(148, some 0)] rfl (by kernel_rfl) (op_copy 148 0 (.val (.bool false)) rfl (.inl rfl) rfl) ?_
      refine LinL.step (s := (.val (.pointer (some ⟨q, 0, none⟩)))) [(7, none), (149, some 0)] rfl (by kernel_rfl) (op_yes (reads := [(7, none)]) 19 149 0 false rfl rfl rfl (op_out 7 (.pointer (some ⟨q, 0, none⟩)) rfl (.inl rfl) rfl)) ?_
      refine LinL.step (s := (.val (.int .i64 T))) [(22, none), (149, some 1)] rfl (by kernel_rfl) (op_yes (reads := [(22, none)]) 19 149 1 false rfl rfl rfl (op_out 22 (.int .i64 T) rfl (.inl rfl) rfl)) ?_
      refine LinL.step (s := (.sl (i64s UU))) [(150, some 1), (151, some 0), (149, some 2)] rfl (by kernel_rfl) (op_yes (reads := [(150, some 1), (151, some 0)]) 19 149 2 false rfl rfl rfl (op_calls 26 #[(.tmp 150), (.tmp 151)] #[22, 3] (fun σ => #[.pointer (some ⟨q, 0, none⟩), .int .i64 T]) rfl rfl (fun _ _ => rfl) fun σ w' hx hg => ⟨by have h150 : σ.tmps.getD 150 undef = .pointer (some ⟨q, 0, none⟩) := hg.1; have h151 : σ.tmps.getD 151 undef = .int .i64 T := hg.2.1; simp only [List.map_toArray, List.map_cons, List.map_nil, Act.eval, h150, h151], retSl (hTx.out w' (hX.trans (hxd.trans hx)))⟩)) ?_
      refine LinL.step (s := (.val (.agg #[vk, vw, v0, .int .i64 deep, .int .i64 slot]))) [(8, none), (149, some 3)] rfl (by kernel_rfl) (op_yes (reads := [(8, none)]) 19 149 3 false rfl rfl rfl (op_runs rfl fun σ w' hx hg => ⟨_, runs_loadN (ρ := σ.eval) (w := w') Try.stDocC (.tmp 8) (us := cRow vk vw v0 deep slot) rfl hg.1 (F8.ext hx) rfl self_at, rfl⟩)) ?_
      refine LinL.step (s := (.val (.int .i64 T))) [(22, none), (149, some 4)] rfl (by kernel_rfl) (op_yes (reads := [(22, none)]) 19 149 4 false rfl rfl rfl (op_out 22 (.int .i64 T) rfl (.inl rfl) rfl)) ?_
      refine LinL.step (s := (.sl (i64s UU))) [(153, some 1), (154, some 0), (149, some 5)] rfl (by kernel_rfl) (op_yes (reads := [(153, some 1), (154, some 0)]) 19 149 5 false rfl rfl rfl (op_calls 27 #[(.tmp 153), (.tmp 154)] #[39, 3] (fun σ => #[.agg #[vk, vw, v0, .int .i64 deep, .int .i64 slot], .int .i64 T]) rfl rfl (fun _ _ => rfl) fun σ w' hx hg => ⟨by have h153 : σ.tmps.getD 153 undef = .agg #[vk, vw, v0, .int .i64 deep, .int .i64 slot] := hg.1; have h154 : σ.tmps.getD 154 undef = .int .i64 T := hg.2.1; simp only [List.map_toArray, List.map_cons, List.map_nil, Act.eval, h153, h154], retSl (hRx.out w' (hX.trans (hxd.trans hx)))⟩)) ?_
      refine LinL.step (s := (.val (.bool true))) [(152, some 3), (155, some 0), (149, some 6)] rfl (by kernel_rfl) (op_yes (reads := [(152, some 3), (155, some 0)]) 19 149 6 false rfl rfl rfl (op_calls 21 #[(.tmp 152), (.tmp 155)] #[24, 24] (fun σ => #[σ.tmps.getD 152 undef, σ.tmps.getD 155 undef]) rfl rfl (fun _ _ => rfl) fun σ w' hx hg => ⟨by skip; simp only [List.map_toArray, List.map_cons, List.map_nil, Act.eval], retH (SameInts_any _ _ UU _ hg.1 hg.2.1)⟩)) ?_
      refine LinL.step (s := (.val (.bool false))) [(156, some 0), (149, some 7)] rfl (by kernel_rfl) (op_yes (reads := [(156, some 0)]) 19 149 7 false rfl rfl rfl (op_runs rfl fun σ w' hx hg => ⟨(.bool false), by have h156 : σ.tmps.getD 156 undef = .bool true := hg.1; unfold Runs execOp; simp [Act.eval, h156, go_sem], rfl⟩)) ?_
      refine LinL.step (s := (.val (.bool false))) [(149, some 8), (157, some 0)] rfl (by kernel_rfl) (op_runs rfl fun σ w' hx hg => ⟨_, runs_pick_f (ρ := σ.eval) (w := w') (.tmp 149) (.const (.bool true)) (.tmp 157) rfl hg.1 hg.2.1, rfl⟩) ?_
      intro wN hxN
      simp only [Fin', List.reverse_cons, List.reverse_nil, List.nil_append, List.cons_append, List.drop_zero, List.take_succ_cons, List.take_zero]
      intro q152 hq152 q155 hq155
      simp only [Act.put, List.setIfInBounds_toArray, List.set_cons_zero, List.set_cons_succ]
      replace hX := hX.trans (hxd.trans hxN)
      replace hR := hR.extend hX
      clear hxd hxN F8 f8 hX hSl hTr hTp hCf hRf hTI hTx hRx
      go_wp2
      go_roundw
      case rel => exact ⟨k + 1, H, K, V, slot, vk, vw, by go_num, hlt'.out, hR, hgo.out⟩
      case measure => have := hlt'.out; simp [RowKit.intOf]; omega
    · have hbr0 : b1.Right := by
        have h1 := hok10
        unfold mkOk at h1
        rw [Bool.and_eq_true] at h1
        rw [← hb10, mkD, if_pos hok10]
        exact of_decide_eq_true h1.2
      have hrawb := hide_ (raw_of2 hbr0)
      have hfew := hide_ (show b1.txs.length * 16 ≤ 140737488355328 from by have := hbr0.t.1; omega)
      obtain ⟨⟨K2, V2⟩, hT10⟩ : ∃ R, tkT l0 slot ⟨K, V⟩ b1 = R := ⟨_, rfl⟩
      obtain ⟨LL, hL10⟩ : ∃ R, tkL l0 slot ⟨K, V⟩ b1 = R := ⟨_, rfl⟩
      obtain ⟨EE, hE10⟩ : ∃ R, tkE l0 slot ⟨K, V⟩ b1 = R := ⟨_, rfl⟩
      have hgo20 : TrS.Good ⟨K2, V2⟩ := by
        have := tkT_good (ds := l0) (slot := slot) (b := b1) hgo
        rw [hT10] at this; exact this
      have hT1 := hide_ hT10
      have hL1 := hide_ hL10
      have hE1 := hide_ hE10
      have hgo2 := hide_ hgo20
      have hU2 := hide_ hgo20.uq
      have hlen2 := hide_ (show K2.length ≤ 400 from hgo20.room)
      obtain ⟨T, hT0⟩ : ∃ T, TrS.tip K2 = T := ⟨_, rfl⟩
      have hT := hide_ hT0
      replace hgo := hide_ hgo
      clear hge hlt hd0 hok10 hb10 hT10 hL10 hE10 hgo20 hT0 hfewd hrawd hbr0
      go_wp2_with ((first
        | ((with_reducible refine at_idx ?_); refine w_actidx Try.elAC _ _ k rfl rfl rfl rfl hl0.out hR.out.ext hd.out ?_; intro pa u t hrow hu0 ht1; have hone := hide_ (actc_one (d := d) hu0 ht1); have honeb := hide_ (blk_one (a := d.b.slot) (b := d.b.miner) (c := d.b.var) (d := d.b.parent) hu0.one'); replace hrow := hide_ hrow; have hu := hide_ hu0; have htt := hide_ ht1; clear hu0 ht1)
        | ((with_reducible refine at_load ?_); refine w_ploadN Try.stAC _ rfl rfl rfl hrow.out rfl ?_)
        | ((with_reducible refine at_alloc ?_); have _t := hone; refine w_allocN Try.stAC rfl rfl ?_; intro g10 w3 hg10 hx2 f10; have n10 := hide_ (hR.fresh hg10))
        | ((with_reducible refine at_store ?_); refine w_astoreN Try.stAC (.tmp 10) _ (us := aRow d u t) rfl rfl rfl rfl rfl f10 rfl rfl hone.out ?_; intro w4 hm3 f9; replace hx2 := hm3.after hx2 (fun i hi => by subst hi; exact hg10); replace f10 : Fs w4 g10 (aRow d u t) := f9; (try replace hE := hE.trans hx2); replace hR := hR.extend hx2; clear hm3 f9 hx2 hg10 hone)
        | ((with_reducible refine at_alloc ?_); have _t := honeb; refine w_alloc Try.stBlk rfl rfl ?_; intro g11 w5 hg11 hx2 f11; have n11 := hide_ (hR.fresh hg11); (try have hg11r := hide_ (Nat.le_trans hE.size hg11)); have h1011 := hide_ (show ¬ g10 = g11 from fun e => by have := f10.lt; omega))
        | ((with_reducible refine at_store ?_); have _t := honeb; refine w_astore Try.stBlk (.tmp 11) _ (us := bRow d.b u) rfl rfl rfl rfl rfl f11 rfl rfl honeb.out ?_; intro w6 hm3 f9; replace hx2 := hm3.after hx2 (fun i hi => by subst hi; exact hg11); replace f11 : Fs w6 g11 (bRow d.b u) := f9; replace f10 := f10.ext hx2; (try replace hE := hE.trans hx2); replace hR := hR.extend hx2; clear hm3 f9 hx2 hg11 honeb)
        | ((with_reducible refine at_field ?_); refine w_fieldN (i := 0) (off := 0) (by kernel_rfl) (.tmp 10) _ rfl rfl rfl ?_)
        | ((with_reducible refine at_field ?_); refine w_fieldN (i := 2) (off := 2) (by kernel_rfl) (.tmp 10) _ rfl rfl rfl ?_)
        | ((with_reducible refine at_load ?_); refine w_loadN Try.stBlkN _ (bRow d.b u) rfl rfl rfl f10 rfl (blk_at d u t) ?_)
        | ((with_reducible refine at_load ?_); refine w_fload _ rfl rfl rfl f10 rfl (agg_of (by kernel_rfl)) ?_)
        | fail) <;> (try simp only [Act.put, List.setIfInBounds_toArray, List.set_cons_zero, List.set_cons_succ]))
      have hMk := hide_ (fun w' (h : Ext w6 w') v (hv : Recs 2 TxR w' v d.txs) => (show Calls Try.prog 16 #[.pointer (some ⟨q, 0, none⟩), .int .i64 d.n, v] w' fun e w'' => ∃ u, e = .returned (.tuple #[.agg (bRow b1 u).toArray, .bool true]) ∧ OwnT w'.heap.size w'' u b1.txs ∧ Ext w' w'' from by
        have := CMake_any (me := d.n) (hR.c.ext h) hv
        rw [hb1.out, hok1.out] at this; exact this))
      have htrow := hide_ (fun w' (h : Ext w6 w') => (recs_rows (htt.out.ext TxR.stays (hR.out.ext.trans h))).1)
      have htraw := hide_ (recs_rows htt.out).2
      have htbig := hide_ (show (d.txs.map TxD.row).length * 16 ≤ 140737488355328 from by rw [List.length_map]; exact hok.out.few2)
      refine wp_region_vw [0, 1, 2, 3, 4, 5, 6, 7, 8, 9, 10, 11, 13] (fun i => [72, 73, 74, 75, 76, 77, 78, 79, 71, 80, 81, 13, 0, 14].getD i 0) (V16 w6.heap.size q g10 d.n t d.txs b1 true) 11 12 zB (fun cs w => ∃ u13, cs = bRow b1 u13 ∧ OwnT w6.heap.size w u13 b1.txs) V16.ext V16.store (fun cs w w' ⟨u, h1, h2⟩ he => ⟨u, h1, h2.ext he⟩) (by kernel_rfl) (by kernel_rfl) (by kernel_rfl) (by decide) (by decide) (by decide) (by intro i hi; show _ < 160; revert i; decide) (by kernel_rfl) (by decide) (by kernel_rfl) ?_ ?_ ?_ ?_
      · intro i hi ha b w' hx hout hdep
        rcases (show i = 0 ∨ i = 1 ∨ i = 2 ∨ i = 3 ∨ i = 4 ∨ i = 5 ∨ i = 6 ∨ i = 7 ∨ i = 8 ∨ i = 9 ∨ i = 10 ∨ i = 13 by simp at hi; omega) with rfl | rfl | rfl | rfl | rfl | rfl | rfl | rfl | rfl | rfl | rfl | rfl
        · have e7 : b.tmps.getD 7 undef = .pointer (some ⟨q, 0, none⟩) := hout 7 (by decide)
          refine wpOp_of_list rfl ?_
          refine w_mvH (.tmp 7) rfl (.inl rfl) e7 ?_
          exact ⟨_, rfl, rfl, Ext.refl _⟩
        · have e10 : b.tmps.getD 10 undef = .pointer (some ⟨g10, 0, none⟩) := hout 10 (by decide)
          refine wpOp_of_list rfl ?_
          refine w_fieldN (i := 1) (off := 1) (by kernel_rfl) (.tmp 10) g10 rfl rfl e10 ?_
          exact ⟨_, rfl, rfl, Ext.refl _⟩
        · have e1 : b.tmps.getD 73 undef = .pointer (some ⟨g10, 1, none⟩) := hdep 1 (by decide) (by decide) (by kernel_rfl)
          refine wpOp_of_list rfl ?_
          refine w_fload (.tmp 73) (i := 1) (u := .int .i64 d.n) rfl rfl e1 (f10.ext hx) rfl (agg_of (by kernel_rfl)) ?_
          exact ⟨_, rfl, rfl, Ext.refl _⟩
        · refine wpOp_of_list rfl ?_
          refine w_nempty0 Try.elTxN rfl rfl ?_
          intro ad w2 hx2
          exact ⟨_, rfl, ⟨ad, rfl⟩, hx2⟩
        · have e10 : b.tmps.getD 10 undef = .pointer (some ⟨g10, 0, none⟩) := hout 10 (by decide)
          refine wpOp_of_list rfl ?_
          refine w_fieldN (i := 3) (off := 7) (by kernel_rfl) (.tmp 10) g10 rfl rfl e10 ?_
          exact ⟨_, rfl, rfl, Ext.refl _⟩
        · have e4 : b.tmps.getD 76 undef = .pointer (some ⟨g10, 7, none⟩) := hdep 4 (by decide) (by decide) (by kernel_rfl)
          refine wpOp_of_list rfl ?_
          refine w_fload (.tmp 76) (i := 7) (u := t) rfl rfl e4 (f10.ext hx) rfl (agg_of (by kernel_rfl)) ?_
          exact ⟨_, rfl, rfl, Ext.refl _⟩
        · obtain ⟨ad, e3⟩ : ∃ ad, b.tmps.getD 75 undef = .slice (some ad) 0 0 := hdep 3 (by decide) (by decide) (by kernel_rfl)
          have e5 : b.tmps.getD 77 undef = t := hdep 5 (by decide) (by decide) (by kernel_rfl)
          refine wpOp_of_list rfl ?_
          refine w_nclone0 Try.elTxN (.tmp 75) (.tmp 77) (ad := ad) (s := t) (ys := d.txs.map TxD.row) rfl rfl e3 e5 (htrow.out _ hx) htbig.out ?_
          intro v' w2 hx2 hv
          refine ⟨_, rfl, ?_, hx2⟩
          rcases hv with ⟨h1, h2⟩ | h1
          · exact .inl ⟨List.map_eq_nil_iff.1 h1, ad, h2⟩
          · exact .inr (OwnT.of h1 htraw.out fun k hk => Nat.le_trans hx.size hk)
        · have e0 : b.tmps.getD 72 undef = .pointer (some ⟨q, 0, none⟩) := hdep 0 (by decide) (by decide) (by kernel_rfl)
          have e2 : b.tmps.getD 74 undef = .int .i64 d.n := hdep 2 (by decide) (by decide) (by kernel_rfl)
          have e6 : TxE w6.heap.size w' (b.tmps.getD 78 undef) d.txs := hdep 6 (by decide) (by decide) (by kernel_rfl)
          refine wpOp_call 16 #[.pointer (some ⟨q, 0, none⟩), .int .i64 d.n, b.tmps.getD 78 undef] 79 rfl rfl rfl rfl (fun _ _ => rfl) (by simp only [List.map_toArray, List.map_cons, List.map_nil, Act.eval, e0, e2]) ?_
          refine (hMk.out w' hx _ e6.recs).mono ?_
          rintro e w2 ⟨u13, rfl, o13, hx2⟩
          exact ⟨_, rfl, _, rfl, ⟨u13, rfl, o13.mono hx.size⟩, hx2⟩
        · obtain ⟨u', hu', hr'⟩ := hdep 7 (by decide) (by decide) (by kernel_rfl)
          refine wpOp_of_list rfl ?_
          refine w_mvH (.tmp 79) rfl (.inl rfl) hu' ?_
          exact ⟨_, rfl, ⟨u', rfl, hr'⟩, Ext.refl _⟩
        · obtain ⟨u', hu', hr'⟩ := hdep 8 (by decide) (by decide) (by kernel_rfl)
          refine wpOp_of_list rfl ?_
          refine wpList_runs rfl (runs_extract rfl hu' rfl) ?_
          exact ⟨_, rfl, ⟨u', rfl, hr'⟩, Ext.refl _⟩
        · obtain ⟨u', hu', hr'⟩ := hdep 8 (by decide) (by decide) (by kernel_rfl)
          refine wpOp_of_list rfl ?_
          refine wpList_runs rfl (runs_extract rfl hu' rfl) ?_
          exact ⟨_, rfl, rfl, Ext.refl _⟩
        · have e9 : b.tmps.getD 81 undef = .bool true := hdep 10 (by decide) (by decide) (by kernel_rfl)
          refine wpOp_of_list rfl ?_
          refine w_mvH (.tmp 81) rfl (.inr rfl) e9 ?_
          exact ⟨_, rfl, rfl, Ext.refl _⟩
      · intro b w'
        refine wpOp_of_list rfl ?_
        refine w_alloc Try.stBlk rfl rfl ?_
        intro g w2 hg hx f
        exact ⟨g, rfl, hg, hx, f⟩
      · intro b w' g hx e13 f hdep
        obtain ⟨u', hu', hr'⟩ := hdep 9 (by decide) (by decide) (by kernel_rfl)
        refine wpOp_of_list rfl ?_
        refine w_astore Try.stBlk (.tmp 13) (.tmp 80) (us := bRow b1 u') rfl rfl rfl e13 hu' f rfl rfl (blk_one (a := b1.slot) (b := b1.miner) (c := b1.var) (d := b1.parent) hr'.recs.one') ?_
        intro w2 hm f2
        exact ⟨_, rfl, hm, f2, u', rfl, hr'.mod hm (hr'.ne_fs f)⟩
      intro wG x hx hv hc
      obtain ⟨g13, cs, e13, hg13, f13, u13, rfl, o13⟩ := hc
      have e14 : x 13 = .bool true := hv 13 (by decide) (by decide)
      simp only [List.foldl_cons, List.foldl_nil, e13, e14]
      generalize x 0 = x0
      generalize x 1 = x1
      generalize x 2 = x2
      generalize x 3 = x3
      generalize x 4 = x4
      generalize x 5 = x5
      generalize x 6 = x6
      generalize x 7 = x7
      generalize x 8 = x8
      generalize x 9 = x9
      generalize x 10 = x10
      simp only [List.getD_cons_zero, List.getD_cons_succ, Act.put, List.setIfInBounds_toArray, List.set_cons_zero, List.set_cons_succ]
      clear hv hg13 hMk htrow htraw htbig
      replace hE := hE.trans hx
      replace hR := hR.extend hx
      replace f10 := f10.ext hx
      replace f11 := f11.ext hx
      clear hx
      go_wp2_with ((first
        | (go_at_call 17; refine (refCMake_any (me := d.n) (txs := d.txs) hU1.out hSt1.out hR.recK hlen1.out (h0.out.ext hR.out.ext) hD.out (htt.out.ext TxR.stays hR.out.ext)).mono ?_; rintro e wM ⟨u15, rfl, o15, hx⟩; rw [hb1.out] at o15; rw [hb1.out, hok1.out]; have n15 := hide_ (fun k (hk : u15.ownBlock = some k) => hR.fresh (o15.new k hk)); have o11 := hide_ (show ¬ u15.ownBlock = some g11 from fun e => by have h1 := o15.new g11 e; have h2 := f11.lt; omega); have one15 := hide_ (blk_one (a := b1.slot) (b := b1.miner) (c := b1.var) (d := b1.parent) o15.recs.one'); replace f10 := f10.ext hx; replace f11 := f11.ext hx; replace f13 := f13.ext hx; replace o13 := o13.ext hx; (try replace hE := hE.trans hx); replace hR := hR.extend hx; clear hx)
        | (go_at_call 18; refine (refBSame_any (b := b1) (b2 := b1) (u := u13) (u2 := u15) o13.recs o15.recs).mono ?_; rintro e wP ⟨rfl, hx⟩; rw [BlkD.same_self]; replace f11 := f11.ext hx; replace f15 := f15.ext hx; replace o15 := o15.ext hx; (try replace hE := hE.trans hx); replace hR := hR.extend hx; clear hx f13 o13)
        | (go_at_call 19; refine (BCopy_any (b := b1) (has_made o15 n15).1 hfew.out).mono ?_; rintro e w7 ⟨uc, rfl, oc, hx⟩; replace oc := oc.recs; replace f11 := f11.ext hx; replace o15 := o15.ext hx; replace hR := hR.extend hx; clear hx)
        | (go_at_call 9; refine (CTake_any (b := b1) hR.c hgo.out.few oc hrawb.out).mono ?_; rintro e w8 ⟨v17, H2, rfl, o17, hC2, hU⟩; rw [hT1.out] at hC2; rw [hL1.out] at o17; rw [hE1.out]; replace hC2 : ChC H2 w8 q p dv l0 deep slot K2 V2 := hC2; have hs17 := hide_ (show ∀ k, v17.ownBlock = some k → ¬ k = g8 from fun k hk e => by have h1 := (own_block_lt (g := k) o17 hk).1; have h2 := hR.f8.lt; omega); replace o17 := OwnI.ints o17; replace f11 := f11.mod hU.mod n11.out.1; have n15h := n15; replace n15 := (fun k (hk : u15.ownBlock = some k) => sx_upd hU (o15.lt hk) (n15h k hk)); replace o15 := o15.mod hU.mod (fun k hk => (n15h k hk).1); clear n15h; replace hR := hR.add hU hC2; clear hC2 hU oc)
        | (go_at_call 20; refine (refCTake_kp (Wr := WS w8 (Sx H2 q g8)) (w := w8) (deep := deep) (slot := slot) (b := b1) (u := u15) (Ext.refl w8) hR.kk hR.kv hgo.out.few (h0.out.ext hR.out.ext) hD.out (has_made o15 n15) hrawb.out).mono ?_; rintro e w9 ⟨vk1, vw1, v20, rfl, k1, k2, o20, hx⟩; rw [hT1.out] at k1 k2; rw [hL1.out] at o20; rw [hE1.out]; replace k1 := hR.got k1 hx; replace k2 := hR.got k2 hx; replace k1 : KP (WS w9 (Sx H2 q g8)) (Sx H2 q g8) w9 vk1 K2 := k1; replace k2 : KP (WS w9 (Sx H2 q g8)) (Sx H2 q g8) w9 vw1 V2 := k2; have hs20 := hide_ (show ∀ k, v20.ownBlock = some k → ¬ k = g8 from fun k hk e => by have h1 := (own_block_lt (g := k) o20 hk).1; have h2 := hR.f8.lt; omega); replace o20 := OwnI.ints o20; replace o17 := Sl.ext o17 hx; replace hR := hR.extend hx; have one19 := hide_ (crow_one (deep := deep) (slot := slot) k1.one k2.one hv01.out); clear hx f11)
        | (go_at_call 21; refine (SameInts_any v17 v20 LL _ o17 o20).mono ?_; rintro e wD ⟨rfl, hx⟩; replace hR := hR.extend hx; clear hx o17 o20)
        | (go_at_call 22; refine (refTip_any hU2.out hR.recK hlen2.out).mono ?_; rintro e w9 ⟨rfl, hx⟩; rw [hT.out]; (try replace hE := hE.trans hx); replace hR := hR.extend hx; clear hx)
        | ((with_reducible refine at_alloc ?_); have _t := one19; refine w_allocN Try.stDocC rfl rfl ?_; intro g19 wA hg19 hx2 f19)
        | ((with_reducible refine at_store ?_); refine w_astoreN Try.stDocC (.tmp 19) _ (us := cRow vk1 vw1 v0 deep slot) rfl rfl rfl rfl rfl f19 rfl rfl one19.out ?_; intro wB hm3 f9; replace hx2 := hm3.after hx2 (fun i hi => by subst hi; exact hg19); replace f19 : Fs wB g19 (cRow vk1 vw1 v0 deep slot) := f9; replace k1 := k1.extS hx2; replace k2 := k2.extS hx2; replace o17 := Sl.ext o17 hx2; replace o20 := Sl.ext o20 hx2; replace hR := hR.extend hx2; clear hm3 f9 hx2 hg19)
        | ((with_reducible refine at_store ?_); refine w_astoreN Try.stDocC (.tmp 8) _ (us := cRow vk1 vw1 v0 deep slot) rfl rfl rfl rfl rfl hR.f8 rfl rfl one19.out ?_; intro wC hm3 f9; replace o17 := Sl.mod o17 hm3 hs17.out; replace o20 := Sl.mod o20 hm3 hs20.out; replace hR := hR.store k1 k2 hm3 f9; clear hm3 f9 k1 k2 f19)
        | ((with_reducible refine at_field ?_); refine w_fieldN (i := 0) (off := 0) (by kernel_rfl) (.tmp 8) _ rfl rfl rfl ?_)
        | ((with_reducible refine at_load ?_); refine w_loadN Try.stDocC (.tmp 19) (cRow vk1 vw1 v0 deep slot) rfl rfl rfl f19 rfl self_at ?_)
        | ((with_reducible refine at_load ?_); refine w_loadN Try.stDocC (.tmp 8) (cRow vk vw v0 deep slot) rfl rfl rfl hR.f8 rfl self_at ?_)
        | ((with_reducible refine at_load ?_); refine w_loadN Try.stDocT _ [vk1, vw1] rfl rfl rfl hR.f8 rfl (tree_at _ _ _ _ _) ?_)
        | ((with_reducible refine at_load ?_); refine w_aload Try.stBlk (.tmp 11) rfl rfl rfl f11 rfl ?_)
        | ((with_reducible refine at_alloc ?_); have _t := one15; refine w_alloc Try.stBlk rfl rfl ?_; intro g15 wN hg15 hx2 f15)
        | ((with_reducible refine at_store ?_); refine w_astore Try.stBlk (.tmp 15) _ (us := bRow b1 u15) rfl rfl rfl rfl rfl f15 rfl rfl one15.out ?_; intro wO hm3 f9; replace hx2 := hm3.after hx2 (fun i hi => by subst hi; exact hg15); replace f15 : Fs wO g15 (bRow b1 u15) := f9; have h1115 := hide_ (show ¬ g15 = g11 from fun e => by have := f11.lt; omega); replace f11 := f11.ext hx2; replace f13 := f13.ext hx2; replace o13 := o13.ext hx2; replace o15 := o15.ext hx2; (try replace hE := hE.trans hx2); replace hR := hR.extend hx2; clear hm3 f9 hx2 hg15)
        | ((with_reducible refine at_store ?_); have _t := f15; refine w_astore Try.stBlk (.tmp 11) _ (us := bRow b1 u15) rfl rfl rfl rfl rfl f11 rfl rfl one15.out ?_; intro wQ hm3 f9; replace n15 := n15.out; replace hR := hR0.out.extend (hm3.after hE (fun i hi => by subst hi; exact hg11r.out)); clear hE; replace o15 := o15.mod hm3 (fun k hk e => o11.out (e ▸ hk)); replace f11 : Fs wQ g11 (bRow b1 u15) := f9; clear hm3 f9 f15)
        | ((with_reducible refine at_field ?_); refine w_fieldN (i := 1) (off := 1) (by kernel_rfl) (.tmp 10) _ rfl rfl rfl ?_)
        | ((with_reducible refine at_field ?_); refine w_fieldN (i := 3) (off := 7) (by kernel_rfl) (.tmp 10) _ rfl rfl rfl ?_)
        | ((with_reducible refine at_load ?_); (try refine w_yes _ _ _ rfl rfl rfl ?_); refine w_aload Try.stBlk (.tmp 13) rfl rfl rfl f13 rfl ?_)
        | ((with_reducible refine at_load ?_); (try refine w_yes _ _ _ rfl rfl rfl ?_); refine w_aload Try.stBlk (.tmp 15) rfl rfl rfl f15 rfl ?_)
        | ((with_reducible refine at_load ?_); refine w_fload _ rfl rfl rfl f10 rfl (agg_of (by kernel_rfl)) ?_)
        | fail) <;> (try simp only [Act.put, List.setIfInBounds_toArray, List.set_cons_zero, List.set_cons_succ]))
      obtain ⟨cf, hcf0⟩ : ∃ cf, backN (TrS.path K2 (TrS.tip K2)) deep = cf := ⟨_, rfl⟩
      obtain ⟨UU, hUU0⟩ : ∃ UU, ids K2 T = UU := ⟨_, rfl⟩
      have hSl := hide_ (fun w' (h : Ext w9 w') => CSlot_any (hR.c.ext h))
      have hTr := hide_ (fun w' (h : Ext w9 w') => CTree_any (hR.c.ext h))
      have hTp := hide_ (fun w' (h : Ext w9 w') => hT.out ▸ Tip_any (hR.c.tr.ext h))
      have hCf := hide_ (fun w' (h : Ext w9 w') => hcf0 ▸ CConf_any (hR.c.ext h))
      have hRf := hide_ (fun w' (h : Ext w9 w') => hcf0 ▸ refCConf_any (vk := vk1) (vw := vw1) (dv := v0) (deep := deep) (slot := slot) hU2.out (hR.recK.ext BlkR.stays h) hlen2.out)
      have hTI := hide_ (show I64 T from hT.out ▸ hR.c.tipI)
      have hTx := hide_ (fun w' (h : Ext w9 w') => hUU0 ▸ CTxs_any (hR.c.ext h) hTI.out)
      have hRx := hide_ (fun w' (h : Ext w9 w') => hUU0 ▸ refCTxs_any (vk := vk1) (vw := vw1) (dv := v0) (deep := deep) (slot := slot) (n := T) hU2.out (hR.recK.ext BlkR.stays h))
      have f8 := hR.f8
      have hX := Ext.refl w9
      clear hcf0 hUU0
      refine wp_region_phx (by kernel_rfl) ?_; intro wd hxd; have F8 := f8.ext hxd
      refine Ph.rest 0 29 (by kernel_rfl) ?_
      refine LinL.step (s := (.val (.pointer (some ⟨q, 0, none⟩)))) [(7, none)] rfl (by kernel_rfl) (op_out 7 (.pointer (some ⟨q, 0, none⟩)) rfl (.inl rfl) rfl) ?_
      refine LinL.step (s := (.val (.int .i64 slot))) [(130, some 0)] rfl (by kernel_rfl) (op_calls 12 #[(.tmp 130)] #[22] (fun σ => #[.pointer (some ⟨q, 0, none⟩)]) rfl rfl (fun _ _ => rfl) fun σ w' hx hg => ⟨by have h130 : σ.tmps.getD 130 undef = .pointer (some ⟨q, 0, none⟩) := hg.1; simp only [List.map_toArray, List.map_cons, List.map_nil, Act.eval, h130], retH (hSl.out w' (hX.trans (hxd.trans hx)))⟩) ?_
      refine LinL.step (s := (.val (.pointer (some ⟨g8, 4, none⟩)))) [(8, none)] rfl (by kernel_rfl) (op_runs rfl fun σ w' hx hg => ⟨_, runs_fieldN (ρ := σ.eval) (w := w') (i := 3) (off := 4) (by kernel_rfl) (.tmp 8) g8 rfl hg.1, rfl⟩) ?_
      refine LinL.step (s := (.val (.int .i64 slot))) [(132, some 0)] rfl (by kernel_rfl) (op_runs rfl fun σ w' hx hg => ⟨_, runs_fload (ρ := σ.eval) (w := w') (.tmp 132) rfl hg.1 (agg_of (by kernel_rfl) _) (F8.ext hx) rfl, rfl⟩) ?_
      refine LinL.step (s := (.val (.bool false))) [(131, some 2), (133, some 0)] rfl (by kernel_rfl) (op_runs rfl fun σ w' hx hg => ⟨(.bool false), by have h131 : σ.tmps.getD 131 undef = .int .i64 slot := hg.1; have h133 : σ.tmps.getD 133 undef = .int .i64 slot := hg.2.1; unfold Runs execOp; simp [Act.eval, h131, h133, go_sem], rfl⟩) ?_
      refine LinL.step (s := (.val (.bool false))) [(134, some 0)] rfl (by kernel_rfl) (op_copy 134 0 (.val (.bool false)) rfl (.inl rfl) rfl) ?_
      refine LinL.step (s := (.val (.pointer (some ⟨q, 0, none⟩)))) [(7, none), (135, some 0)] rfl (by kernel_rfl) (op_yes (reads := [(7, none)]) 5 135 0 false rfl rfl rfl (op_out 7 (.pointer (some ⟨q, 0, none⟩)) rfl (.inl rfl) rfl)) ?_
      refine LinL.step (s := (.val (.pointer (some ⟨p, 0, none⟩)))) [(136, some 0), (135, some 1)] rfl (by kernel_rfl) (op_yes (reads := [(136, some 0)]) 5 135 1 false rfl rfl rfl (op_calls 23 #[(.tmp 136)] #[22] (fun σ => #[.pointer (some ⟨q, 0, none⟩)]) rfl rfl (fun _ _ => rfl) fun σ w' hx hg => ⟨by have h136 : σ.tmps.getD 136 undef = .pointer (some ⟨q, 0, none⟩) := hg.1; simp only [List.map_toArray, List.map_cons, List.map_nil, Act.eval, h136], retH (hTr.out w' (hX.trans (hxd.trans hx)))⟩)) ?_
      refine LinL.step (s := (.val (.int .i64 T))) [(137, some 0), (135, some 2)] rfl (by kernel_rfl) (op_yes (reads := [(137, some 0)]) 5 135 2 false rfl rfl rfl (op_calls 24 #[(.tmp 137)] #[53] (fun σ => #[.pointer (some ⟨p, 0, none⟩)]) rfl rfl (fun _ _ => rfl) fun σ w' hx hg => ⟨by have h137 : σ.tmps.getD 137 undef = .pointer (some ⟨p, 0, none⟩) := hg.1; simp only [List.map_toArray, List.map_cons, List.map_nil, Act.eval, h137], retH (hTp.out w' (hX.trans (hxd.trans hx)))⟩)) ?_
      refine LinL.step (s := (.val (.int .i64 T))) [(22, none), (135, some 3)] rfl (by kernel_rfl) (op_yes (reads := [(22, none)]) 5 135 3 false rfl rfl rfl (op_out 22 (.int .i64 T) rfl (.inl rfl) rfl)) ?_
      refine LinL.step (s := (.val (.bool false))) [(138, some 1), (139, some 0), (135, some 4)] rfl (by kernel_rfl) (op_yes (reads := [(138, some 1), (139, some 0)]) 5 135 4 false rfl rfl rfl (op_runs rfl fun σ w' hx hg => ⟨(.bool false), by have h138 : σ.tmps.getD 138 undef = .int .i64 T := hg.1; have h139 : σ.tmps.getD 139 undef = .int .i64 T := hg.2.1; unfold Runs execOp; simp [Act.eval, h138, h139, go_sem], rfl⟩)) ?_
      refine LinL.step (s := (.val (.bool false))) [(135, some 5), (140, some 0)] rfl (by kernel_rfl) (op_runs rfl fun σ w' hx hg => ⟨_, runs_pick_f (ρ := σ.eval) (w := w') (.tmp 135) (.const (.bool true)) (.tmp 140) rfl hg.1 hg.2.1, rfl⟩) ?_
      refine LinL.step (s := (.val (.bool false))) [(141, some 0)] rfl (by kernel_rfl) (op_copy 141 0 (.val (.bool false)) rfl (.inl rfl) rfl) ?_
      refine LinL.step (s := (.val (.pointer (some ⟨q, 0, none⟩)))) [(7, none), (142, some 0)] rfl (by kernel_rfl) (op_yes (reads := [(7, none)]) 12 142 0 false rfl rfl rfl (op_out 7 (.pointer (some ⟨q, 0, none⟩)) rfl (.inl rfl) rfl)) ?_
      refine LinL.step (s := (.val (.int .i64 cf))) [(143, some 0), (142, some 1)] rfl (by kernel_rfl) (op_yes (reads := [(143, some 0)]) 12 142 1 false rfl rfl rfl (op_calls 11 #[(.tmp 143)] #[22] (fun σ => #[.pointer (some ⟨q, 0, none⟩)]) rfl rfl (fun _ _ => rfl) fun σ w' hx hg => ⟨by have h143 : σ.tmps.getD 143 undef = .pointer (some ⟨q, 0, none⟩) := hg.1; simp only [List.map_toArray, List.map_cons, List.map_nil, Act.eval, h143], retH (hCf.out w' (hX.trans (hxd.trans hx)))⟩)) ?_
      refine LinL.step (s := (.val (.agg #[vk1, vw1, v0, .int .i64 deep, .int .i64 slot]))) [(8, none), (142, some 2)] rfl (by kernel_rfl) (op_yes (reads := [(8, none)]) 12 142 2 false rfl rfl rfl (op_runs rfl fun σ w' hx hg => ⟨_, runs_loadN (ρ := σ.eval) (w := w') Try.stDocC (.tmp 8) (us := cRow vk1 vw1 v0 deep slot) rfl hg.1 (F8.ext hx) rfl self_at, rfl⟩)) ?_
      refine LinL.step (s := (.val (.int .i64 cf))) [(145, some 0), (142, some 3)] rfl (by kernel_rfl) (op_yes (reads := [(145, some 0)]) 12 142 3 false rfl rfl rfl (op_calls 25 #[(.tmp 145)] #[39] (fun σ => #[.agg #[vk1, vw1, v0, .int .i64 deep, .int .i64 slot]]) rfl rfl (fun _ _ => rfl) fun σ w' hx hg => ⟨by have h145 : σ.tmps.getD 145 undef = .agg #[vk1, vw1, v0, .int .i64 deep, .int .i64 slot] := hg.1; simp only [List.map_toArray, List.map_cons, List.map_nil, Act.eval, h145], retH (hRf.out w' (hX.trans (hxd.trans hx)))⟩)) ?_
      refine LinL.step (s := (.val (.bool false))) [(144, some 2), (146, some 0), (142, some 4)] rfl (by kernel_rfl) (op_yes (reads := [(144, some 2), (146, some 0)]) 12 142 4 false rfl rfl rfl (op_runs rfl fun σ w' hx hg => ⟨(.bool false), by have h144 : σ.tmps.getD 144 undef = .int .i64 cf := hg.1; have h146 : σ.tmps.getD 146 undef = .int .i64 cf := hg.2.1; unfold Runs execOp; simp [Act.eval, h144, h146, go_sem], rfl⟩)) ?_
      refine LinL.step (s := (.val (.bool false))) [(142, some 5), (147, some 0)] rfl (by kernel_rfl) (op_runs rfl fun σ w' hx hg => ⟨_, runs_pick_f (ρ := σ.eval) (w := w') (.tmp 142) (.const (.bool true)) (.tmp 147) rfl hg.1 hg.2.1, rfl⟩) ?_
      refine LinL.step (s := (.val (.bool false))) [(148, some 0)] rfl (by kernel_rfl) (op_copy 148 0 (.val (.bool false)) rfl (.inl rfl) rfl) ?_
      refine LinL.step (s := (.val (.pointer (some ⟨q, 0, none⟩)))) [(7, none), (149, some 0)] rfl (by kernel_rfl) (op_yes (reads := [(7, none)]) 19 149 0 false rfl rfl rfl (op_out 7 (.pointer (some ⟨q, 0, none⟩)) rfl (.inl rfl) rfl)) ?_
      refine LinL.step (s := (.val (.int .i64 T))) [(22, none), (149, some 1)] rfl (by kernel_rfl) (op_yes (reads := [(22, none)]) 19 149 1 false rfl rfl rfl (op_out 22 (.int .i64 T) rfl (.inl rfl) rfl)) ?_
      refine LinL.step (s := (.sl (i64s UU))) [(150, some 1), (151, some 0), (149, some 2)] rfl (by kernel_rfl) (op_yes (reads := [(150, some 1), (151, some 0)]) 19 149 2 false rfl rfl rfl (op_calls 26 #[(.tmp 150), (.tmp 151)] #[22, 3] (fun σ => #[.pointer (some ⟨q, 0, none⟩), .int .i64 T]) rfl rfl (fun _ _ => rfl) fun σ w' hx hg => ⟨by have h150 : σ.tmps.getD 150 undef = .pointer (some ⟨q, 0, none⟩) := hg.1; have h151 : σ.tmps.getD 151 undef = .int .i64 T := hg.2.1; simp only [List.map_toArray, List.map_cons, List.map_nil, Act.eval, h150, h151], retSl (hTx.out w' (hX.trans (hxd.trans hx)))⟩)) ?_
      refine LinL.step (s := (.val (.agg #[vk1, vw1, v0, .int .i64 deep, .int .i64 slot]))) [(8, none), (149, some 3)] rfl (by kernel_rfl) (op_yes (reads := [(8, none)]) 19 149 3 false rfl rfl rfl (op_runs rfl fun σ w' hx hg => ⟨_, runs_loadN (ρ := σ.eval) (w := w') Try.stDocC (.tmp 8) (us := cRow vk1 vw1 v0 deep slot) rfl hg.1 (F8.ext hx) rfl self_at, rfl⟩)) ?_
      refine LinL.step (s := (.val (.int .i64 T))) [(22, none), (149, some 4)] rfl (by kernel_rfl) (op_yes (reads := [(22, none)]) 19 149 4 false rfl rfl rfl (op_out 22 (.int .i64 T) rfl (.inl rfl) rfl)) ?_
      refine LinL.step (s := (.sl (i64s UU))) [(153, some 1), (154, some 0), (149, some 5)] rfl (by kernel_rfl) (op_yes (reads := [(153, some 1), (154, some 0)]) 19 149 5 false rfl rfl rfl (op_calls 27 #[(.tmp 153), (.tmp 154)] #[39, 3] (fun σ => #[.agg #[vk1, vw1, v0, .int .i64 deep, .int .i64 slot], .int .i64 T]) rfl rfl (fun _ _ => rfl) fun σ w' hx hg => ⟨by have h153 : σ.tmps.getD 153 undef = .agg #[vk1, vw1, v0, .int .i64 deep, .int .i64 slot] := hg.1; have h154 : σ.tmps.getD 154 undef = .int .i64 T := hg.2.1; simp only [List.map_toArray, List.map_cons, List.map_nil, Act.eval, h153, h154], retSl (hRx.out w' (hX.trans (hxd.trans hx)))⟩)) ?_
      refine LinL.step (s := (.val (.bool true))) [(152, some 3), (155, some 0), (149, some 6)] rfl (by kernel_rfl) (op_yes (reads := [(152, some 3), (155, some 0)]) 19 149 6 false rfl rfl rfl (op_calls 21 #[(.tmp 152), (.tmp 155)] #[24, 24] (fun σ => #[σ.tmps.getD 152 undef, σ.tmps.getD 155 undef]) rfl rfl (fun _ _ => rfl) fun σ w' hx hg => ⟨by skip; simp only [List.map_toArray, List.map_cons, List.map_nil, Act.eval], retH (SameInts_any _ _ UU _ hg.1 hg.2.1)⟩)) ?_
      refine LinL.step (s := (.val (.bool false))) [(156, some 0), (149, some 7)] rfl (by kernel_rfl) (op_yes (reads := [(156, some 0)]) 19 149 7 false rfl rfl rfl (op_runs rfl fun σ w' hx hg => ⟨(.bool false), by have h156 : σ.tmps.getD 156 undef = .bool true := hg.1; unfold Runs execOp; simp [Act.eval, h156, go_sem], rfl⟩)) ?_
      refine LinL.step (s := (.val (.bool false))) [(149, some 8), (157, some 0)] rfl (by kernel_rfl) (op_runs rfl fun σ w' hx hg => ⟨_, runs_pick_f (ρ := σ.eval) (w := w') (.tmp 149) (.const (.bool true)) (.tmp 157) rfl hg.1 hg.2.1, rfl⟩) ?_
      intro wN hxN
      simp only [Fin', List.reverse_cons, List.reverse_nil, List.nil_append, List.cons_append, List.drop_zero, List.take_succ_cons, List.take_zero]
      intro q152 hq152 q155 hq155
      simp only [Act.put, List.setIfInBounds_toArray, List.set_cons_zero, List.set_cons_succ]
      replace hX := hX.trans (hxd.trans hxN)
      replace hR := hR.extend hX
      clear hxd hxN F8 f8 hX hSl hTr hTp hCf hRf hTI hTx hRx
      go_wp2
      go_roundw
      case rel => exact ⟨k + 1, H2, K2, V2, slot, vk1, vw1, by go_num, hlt'.out, hR, hgo2.out⟩
      case measure => have := hlt'.out; simp [RowKit.intOf]; omega

set_option maxRecDepth 100000 in
theorem chainRuns_lifted (os : Os) (started : os.Started) (H : Type) (enc : TypeId × Value → H) :
    ReturnsInHanded {} Try.checked os 4 .any (Rows.chainRunsSpec.pre6 enc Try.prog Try.f4 Rows.chainRunsRow.domain false) (Rows.chainRunsSpec.post enc Try.prog Try.f4 false true false false) := by
  refine law_lifted (s := Rows.chainRunsSpec) (conds := Rows.chainRunsRow.domain) Try.func4 (by kernel_rfl) rfl (fun H ds h => by
      rw [show Try.f4.params.size = 3 from rfl] at h
      match ds, h with
      | [d0, d1, d2], _ => rfl) rfl rfl (by decide +kernel) os started H enc
    (ChangeSpec.witness6 (enc := enc) (C := Try.checked) false ⟨#[], #[.slice none 0 0, .int .i64 0, .slice none 0 0], []⟩ 8 (by kernel_rfl) (by kernel_rfl) (by kernel_rfl) (by kernel_rfl)) ?_
  intro W base args ds p hval hA hsz _
  have hp : Try.f4.params.toList = [24, 3, 33] := rfl
  rw [hp] at hA hsz
  obtain ⟨v0, v1, v2, d0, d1, d2, p0, p1, p2, rfl, rfl, rfl, h0, h1, h2⟩ := trodAll_three hA
  obtain ⟨l0, a0, b0, c0⟩ := arg_ints hsz (j := 0) rfl rfl (hval 0 24 v0 rfl rfl) h0
  obtain ⟨a1, rfl, b1, c1⟩ := arg_int (hval 1 3 v1 rfl rfl) h1
  obtain ⟨l2, k2⟩ := arg_Acts11 hsz (j := 2) rfl rfl (hval 2 33 v2 rfl rfl) h2
  exact chainRuns_law v0 l0 a1 v2 l2 W a0 b0 ⟨b1, c1⟩ k2

theorem chainRuns_holds : Rows.ChainRunsSaid :=
  OpenClaim.holds_of_wide 4 Try.f4 rfl rfl rfl rfl rfl rfl rfl ⟨rfl, rfl, rfl, rfl, rfl⟩ rfl rfl rfl rfl rfl (by kernel_rfl) Try.func4 (by kernel_rfl)
    (of_decide_eq_true (by kernel_rfl)) (by unfold Func.isWrapper; first | (rw [if_pos (by decide +kernel)]; kernel_rfl) | (rw [if_neg (by decide +kernel)]; exact ⟨rfl, rfl⟩))
    (fun os started H enc _ => chainRuns_lifted os started H enc)
#print axioms chainRuns_holds

end Go.Proofs.Ytpnbkgeglgiihaa
