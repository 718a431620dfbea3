/- The statement ChainRefuses: what is refused changes nothing; what is taken was won in a slot that is there; the slot never goes back. No condition. -/
import Derived.Test.YtpnbkgeglgiihaaCLa
import Derived.Test.YtpnbkgeglgiihaaCLw
import Derived.Test.YtpnbkgeglgiihaaCAct
import Derived.Test.YtpnbkgeglgiihaaArgI
import Derived.Test.YtpnbkgeglgiihaaLotR
namespace Go.Proofs.Ytpnbkgeglgiihaa
set_option maxRecDepth 100000
open Go.RowKit Go.ChangeShapes Go.WideShapes Go.ChangeAt

set_option maxRecDepth 100000 in
set_option maxHeartbeats 6400000 in
theorem chainRefuses_law (v0 : Value) (l0 : List Int) (v1 : Value) (l : List ActC) (W : World) (h00 : Ints W v0 l0) (_hI : I64s l0) (hl00 : Recs 8 ActCR W v1 l) :
    Calls Try.prog 7 #[v0, v1] W fun e w' => e = .returned (.bool true) ∧ Ext W w' := by
  refine calls_keep ?_
  have h0 := hide_ h00
  have hl0 := hide_ hl00
  have hmax := hl00.len_le
  unfold maxLen at hmax
  have hraws := hide_ (fun k d (h : l[k]? = some d) => acts_at hl00 h)
  clear h00 hl00 _hI
  by_cases hD0 : DrOk l0
  rotate_left
  · have e0 := hide_ (show lchk l0 = 101 from if_neg hD0)
    clear hD0
    go_enter Try.func7, Try.ntmps7
    go_wp2_with (first
      | (go_at_call 10; refine (chainAlive_any _).mono ?_; rintro e w2 ⟨rfl, hX⟩)
      | (go_at_call 13; refine (refCheck_any (h0.out.ext hX)).mono ?_; rintro e w4 ⟨rfl, hx⟩; rw [e0.out]; replace hX := hX.trans hx; clear hx)
      | fail)
    go_ret
    exact Keep.intro ⟨rfl, hX⟩
  have e0 := hide_ (show lchk l0 = 0 from if_pos hD0)
  by_cases hb1 : 60 < l.length
  · have t1 : decide ((60 : Int) < (l.length : Int)) = true := decide_eq_true (by omega)
    clear hD0 hb1
    go_enter Try.func7, Try.ntmps7
    go_wp2_with ((first
      | (go_at_call 10; refine (chainAlive_any _).mono ?_; rintro e w2 ⟨rfl, hX⟩)
      | (go_at_call 13; refine (refCheck_any (h0.out.ext hX)).mono ?_; rintro e w4 ⟨rfl, hx⟩; rw [e0.out]; replace hX := hX.trans hx; clear hx)
      | ((with_reducible refine at_bi ?_); (try refine w_yes _ _ _ rfl rfl rfl ?_); refine w_rlen Try.elAC _ rfl rfl rfl (hl0.out.ext ActCR.stays hX) ?_)
      | fail) <;> (try simp only [Act.put, List.setIfInBounds_toArray, List.set_cons_zero, List.set_cons_succ]))
    go_ret
    exact Keep.intro ⟨rfl, hX⟩
  have t1 : decide ((60 : Int) < (l.length : Int)) = false := decide_eq_false (by omega)
  have hD := hide_ hD0
  have hbig := hide_ (show (([] : List Int).length + l0.length) * 8 ≤ 140737488355328 from by have := hD0.1; simp; omega)
  clear hD0
  go_enter Try.func7, Try.ntmps7
  go_wp2_with ((first
    | (go_at_call 8; refine (CNew_any (deep := 1) i8 hD.out ⟨by omega, by omega⟩).mono ?_; rintro e w1 ⟨q, p, dv, H, rfl, hC, hx, hq, hH⟩; have hO : Out W (CQ H q) w1 := ⟨hX.trans hx, fun k hk => hk.elim (fun e => Nat.le_trans hX.size (hH k e)) (fun e => e ▸ Nat.le_trans hX.size hq)⟩; clear hX hx hq hH i8)
    | (go_at_call 10; refine (chainAlive_any _).mono ?_; rintro e w2 ⟨rfl, hX⟩)
    | (go_at_call 13; refine (refCheck_any (h0.out.ext hX)).mono ?_; rintro e w4 ⟨rfl, hx⟩; rw [e0.out]; replace hX := hX.trans hx; clear hx)
    | ((with_reducible refine at_bi ?_); (try refine w_yes _ _ _ rfl rfl rfl ?_); refine w_rlen Try.elAC _ rfl rfl rfl (hl0.out.ext ActCR.stays hX) ?_)
    | ((with_reducible refine at_lit ?_); refine w_new Try.elI (i64s []) rfl rfl rfl (i64s_cells _) rfl (by omega) ?_; intro v5 w5 hx3 o5; replace o5 : OwnI _ w5 v5 [] := o5; have hs5 := hx3.size)
    | ((with_reducible refine at_bi ?_); refine appi _ _ rfl rfl rfl rfl o5 (h0.out.ext (hX.trans hx3)) hbig.out hs5 ?_; intro v9 w9 o9 hb9 hg9 hg9'; rw [List.nil_append] at o9; have i8 := o9.ints; have hx4 := hx3.trans' hb9; replace hX := hX.trans hx4; clear hb9 hg9 hg9' hx3 hx4 hs5 o5 o9)
    | ((with_reducible refine at_bi ?_); refine w_rlen Try.elAC _ rfl rfl rfl (hl0.out.ext ActCR.stays hO.ext) ?_)
    | fail) <;> (try simp only [Act.put, List.setIfInBounds_toArray, List.set_cons_zero, List.set_cons_succ]))
  go_loopw [31] (fun i wr => ∃ (k : Nat) (H : Nat → Prop) (K V : List BlkD) (slot : Int), i = .int .i64 k ∧ k ≤ l.length ∧ ChC H wr q p dv l0 1 slot K V ∧ TrS.Good ⟨K, V⟩ ∧ Won l0 slot ⟨K, V⟩ ∧ Out W (CQ H q) wr) (fun i _ => l.length - (RowKit.intOf i).toNat)
  case atStart => exact ⟨0, H, [], [], 0, rfl, Nat.zero_le _, hC, TrS.Good.nil, Won.nil, hO⟩
  case round =>
    clear hC hO
    obtain ⟨k, H, K, V, slot, rfl, hk, hC, hgo, hwo, hO⟩ := hrel
    by_cases hge : l.length ≤ k
    · obtain rfl : k = l.length := by omega
      have t2 : decide (l.length < l.length) = false := by simp
      clear hge hk hgo hwo
      go_wp2
      go_ret
      exact Keep.intro ⟨rfl, hO.ext⟩
    have hlt : k < l.length := by omega
    have t2 : decide (k < l.length) = true := by simpa using hlt
    obtain ⟨d, hd0⟩ : ∃ d, l[k]? = some d := ⟨_, List.getElem?_eq_getElem hlt⟩
    have hd := hide_ hd0
    have hok := hide_ (hraws.out k d hd0)
    have hlt' := hide_ hlt
    have hk4 : k ≤ 60 := by omega
    cases c1 : (d.k == 1)
    rotate_left
    · obtain ⟨ms, hms0⟩ : ∃ ms, max slot d.n = ms := ⟨_, rfl⟩
      have hms := hide_ hms0
      have hwo2 := hide_ (show Won l0 ms ⟨K, V⟩ from hwo.next (by omega))
      replace hgo := hide_ hgo
      clear hge hlt hd0 hms0 hwo
      go_wp2_with ((first
        | (go_at_call 14; refine (CNext_any (n := d.n) hC hok.out.n).mono ?_; rintro e w6 ⟨rfl, hC2, hm⟩; rw [hms.out] at hC2; replace f10 := f10.mod hm nq10.out; replace hC := hC2; replace hO := hO.nx hm; clear hC2 hm)
        | (go_at_call 12; refine (CSlot_any hC).mono ?_; rintro e w1 ⟨rfl, hx⟩; replace f10 := f10.ext hx; replace hC := hC.ext hx; replace hO := hO.extend hx; clear hx)
        | ((with_reducible refine at_idx ?_); refine w_actidx Try.elAC _ _ k rfl rfl rfl rfl hl0.out hO.ext hd.out ?_; intro pa u t hrow hu0 ht1; have hone := hide_ (actc_one (d := d) hu0 ht1); replace hrow := hide_ hrow; have hu := hide_ hu0; have htt := hide_ ht1; clear hu0 ht1)
        | ((with_reducible refine at_load ?_); refine w_ploadN Try.stAC _ rfl rfl rfl hrow.out rfl ?_)
        | ((with_reducible refine at_alloc ?_); refine w_allocN Try.stAC rfl rfl ?_; intro g10 w3 hg10 hx2 f10; have n10 := hide_ (show ¬ H g10 from fun h => by have := hC.lt g10 h; omega); have nq10 := hide_ (show ¬ g10 = q from fun h => by have := hC.obj.lt; omega))
        | ((with_reducible refine at_store ?_); refine w_astoreN Try.stAC _ _ (us := aRow d u t) rfl rfl rfl rfl rfl f10 rfl rfl hone.out ?_; intro w4 hm3 f9; replace hx2 := hm3.after hx2 (fun i hi => by subst hi; exact hg10); replace f10 : Fs w4 g10 (aRow d u t) := f9; replace hC := hC.ext hx2; replace hO := hO.extend hx2; clear hm3 f9 hx2 hone)
        | ((with_reducible refine at_field ?_); refine w_fieldN (i := 0) (off := 0) (by kernel_rfl) _ _ rfl rfl rfl ?_)
        | ((with_reducible refine at_field ?_); refine w_fieldN (i := 1) (off := 1) (by kernel_rfl) _ _ rfl rfl rfl ?_)
        | ((with_reducible refine at_load ?_); refine w_fload _ rfl rfl rfl f10 rfl (agg_of (by kernel_rfl)) ?_)
        | fail) <;> (try simp only [Act.put, List.setIfInBounds_toArray, List.set_cons_zero, List.set_cons_succ]))
      have hSl := hide_ (fun w' (h : Ext w6 w') => CSlot_any (hC.ext h))
      have hX := Ext.refl w6
      refine wp_region_phx (by kernel_rfl) ?_; intro wd hxd; have F10 := f10.ext hxd
      refine Ph.rest 0 7 (by kernel_rfl) ?_
      refine LinL.step (s := (.val (.pointer (some ⟨q, 0, none⟩)))) [(5, none)] rfl (by kernel_rfl) (op_out 5 (.pointer (some ⟨q, 0, none⟩)) rfl (.inl rfl) rfl) ?_
      refine LinL.step (s := (.val (.int .i64 ms))) [(44, some 0)] rfl (by kernel_rfl) (op_calls 12 #[(.tmp 44)] #[22] (fun σ => #[.pointer (some ⟨q, 0, none⟩)]) rfl rfl (fun _ _ => rfl) fun σ w' hx hg => ⟨by have h44 : σ.tmps.getD 44 undef = .pointer (some ⟨q, 0, none⟩) := hg.1; simp only [List.map_toArray, List.map_cons, List.map_nil, Act.eval, h44], retH (hSl.out w' (hX.trans (hxd.trans hx)))⟩) ?_
      refine LinL.step (s := (.val (.int .i64 slot))) [(8, none)] rfl (by kernel_rfl) (op_out 8 (.int .i64 slot) rfl (.inl rfl) rfl) ?_
      refine LinL.step (s := (.val (.pointer (some ⟨g10, 1, none⟩)))) [(7, none)] rfl (by kernel_rfl) (op_runs rfl fun σ w' hx hg => ⟨_, runs_fieldN (ρ := σ.eval) (w := w') (i := 1) (off := 1) (by kernel_rfl) (.tmp 7) g10 rfl hg.1, rfl⟩) ?_
      refine LinL.step (s := (.val (.int .i64 d.n))) [(47, some 0)] rfl (by kernel_rfl) (op_runs rfl fun σ w' hx hg => ⟨_, runs_fload (ρ := σ.eval) (w := w') (.tmp 47) rfl hg.1 (agg_of (by kernel_rfl) _) (F10.ext hx) rfl, rfl⟩) ?_
      refine LinL.step (s := (.val (.int .i64 ms))) [(46, some 2), (48, some 0)] rfl (by kernel_rfl) (op_runs rfl fun σ w' hx hg => ⟨_, runs_max (ρ := σ.eval) (w := w') (.tmp 46) (.tmp 48) ms (by exact hms.out.symm) rfl hg.1 hg.2.1, rfl⟩) ?_
      refine LinL.step (s := (.val (.bool false))) [(45, some 4), (49, some 0)] rfl (by kernel_rfl) (op_runs rfl fun σ w' hx hg => ⟨(.bool false), by have h45 : σ.tmps.getD 45 undef = .int .i64 ms := hg.1; have h49 : σ.tmps.getD 49 undef = .int .i64 ms := hg.2.1; unfold Runs execOp; simp [Act.eval, h45, h49, go_sem], rfl⟩) ?_
      intro wN hxN
      simp only [Fin', List.reverse_cons, List.reverse_nil, List.nil_append, List.cons_append, List.drop_zero, List.take_succ_cons, List.take_zero]
      simp only [Act.put, List.setIfInBounds_toArray, List.set_cons_zero, List.set_cons_succ]
      replace hX := hX.trans (hxd.trans hxN)
      replace hC := hC.ext hX
      replace hO := hO.extend hX
      clear hxd hxN F10 hX hSl
      go_wp2
      go_roundw
      case rel => exact ⟨k + 1, H, K, V, ms, by go_num, hlt'.out, hC, hgo.out, hwo2.out, hO⟩
      case measure => have := hlt'.out; simp [RowKit.intOf]; omega
    obtain ⟨N, hN0⟩ : ∃ N, TrS.names K = N := ⟨_, rfl⟩
    obtain ⟨NV, hNV0⟩ : ∃ NV, V.map BlkD.name = NV := ⟨_, rfl⟩
    have hN := hide_ hN0
    have hNV := hide_ hNV0
    cases hto : tkOk l0 slot ⟨K, V⟩ d.b
    · obtain ⟨e1, e2, e3⟩ := tk_no hto
      have e1' := hide_ e1
      have e2' := hide_ e2
      have e3' := hide_ e3
      replace hgo := hide_ hgo
      replace hwo := hide_ hwo
      clear hge hlt hd0 hN0 hNV0 hto e1 e2 e3
      go_wp2_with ((first
        | (go_at_call 19; refine (BCopy_any (b := d.b) (hu.out.ext TxR.stays hO.ext) hok.out.few).mono ?_; rintro e w5 ⟨uc, rfl, oc, hx⟩; replace oc := oc.recs; (try replace o2 := Sl.ext o2 hx); (try replace o9 := Sl.ext o9 hx); (try replace o11 := Sl.ext o11 hx); (try replace o13 := Sl.ext o13 hx); (try replace o15 := Sl.ext o15 hx); (try replace f10 := f10.ext hx); replace hC := hC.ext hx; replace hO := hO.extend hx; clear hx)
        | (go_at_call 9; refine (CTake_any (b := d.b) hC hgo.out.few oc hok.out.raw).mono ?_; rintro e w6 ⟨v2, H2, rfl, o2, hC2, hU⟩; rw [e1'.out] at hC2; rw [e2'.out] at o2; rw [e3'.out]; replace o2 := OwnI.ints o2; replace o9 := Sl.mod o9 hU.mod s9.out; replace o11 := Sl.mod o11 hU.mod s11.out; replace f10 := f10.mod hU.mod n10.out; replace hC := hC2; replace hO := hO.ch hU; clear hC2 hU oc)
        | (go_at_call 23; refine (CTree_any hC).mono ?_; rintro e w1 ⟨rfl, hx⟩; (try replace o2 := Sl.ext o2 hx); (try replace o9 := Sl.ext o9 hx); (try replace o11 := Sl.ext o11 hx); (try replace o13 := Sl.ext o13 hx); (try replace o15 := Sl.ext o15 hx); (try replace f10 := f10.ext hx); replace hC := hC.ext hx; replace hO := hO.extend hx; clear hx)
        | (go_at_call 35; have _t := o2; refine (Names_any hC.tr).mono ?_; rintro e w1 ⟨v13, rfl, o13, hx⟩; rw [hN.out] at o13; replace o13 := OwnI.ints o13; (try replace o2 := Sl.ext o2 hx); (try replace o9 := Sl.ext o9 hx); (try replace o11 := Sl.ext o11 hx); (try replace o13 := Sl.ext o13 hx); (try replace o15 := Sl.ext o15 hx); (try replace f10 := f10.ext hx); replace hC := hC.ext hx; replace hO := hO.extend hx; clear hx)
        | (go_at_call 35; refine (Names_any hC.tr).mono ?_; rintro e w1 ⟨v9, rfl, r9, hx⟩; rw [hN.out] at r9; have s9 := hide_ (show ∀ k, v9.ownBlock = some k → ¬ H k from fun k hk h => by have h1 := own_block_lt (g := k) r9 hk; have h2 := hC.lt k h; omega); have o9 := OwnI.ints r9; clear r9; (try replace o2 := Sl.ext o2 hx); (try replace o9 := Sl.ext o9 hx); (try replace o11 := Sl.ext o11 hx); (try replace o13 := Sl.ext o13 hx); (try replace o15 := Sl.ext o15 hx); (try replace f10 := f10.ext hx); replace hC := hC.ext hx; replace hO := hO.extend hx; clear hx)
        | (go_at_call 36; have _t := o2; refine (Waiting_any hC.tr).mono ?_; rintro e w1 ⟨v15, rfl, o15, hx⟩; rw [hNV.out] at o15; replace o15 := OwnI.ints o15; (try replace o2 := Sl.ext o2 hx); (try replace o9 := Sl.ext o9 hx); (try replace o11 := Sl.ext o11 hx); (try replace o13 := Sl.ext o13 hx); (try replace o15 := Sl.ext o15 hx); (try replace f10 := f10.ext hx); replace hC := hC.ext hx; replace hO := hO.extend hx; clear hx)
        | (go_at_call 36; refine (Waiting_any hC.tr).mono ?_; rintro e w1 ⟨v11, rfl, r11, hx⟩; rw [hNV.out] at r11; have s11 := hide_ (show ∀ k, v11.ownBlock = some k → ¬ H k from fun k hk h => by have h1 := own_block_lt (g := k) r11 hk; have h2 := hC.lt k h; omega); have o11 := OwnI.ints r11; clear r11; (try replace o2 := Sl.ext o2 hx); (try replace o9 := Sl.ext o9 hx); (try replace o11 := Sl.ext o11 hx); (try replace o13 := Sl.ext o13 hx); (try replace o15 := Sl.ext o15 hx); (try replace f10 := f10.ext hx); replace hC := hC.ext hx; replace hO := hO.extend hx; clear hx)
        | (go_at_call 21; refine (SameInts_any v15 v11 NV _ o15 o11).mono ?_; rintro e w1 ⟨rfl, hx⟩; (try replace o2 := Sl.ext o2 hx); (try replace o9 := Sl.ext o9 hx); (try replace o11 := Sl.ext o11 hx); (try replace o13 := Sl.ext o13 hx); (try replace o15 := Sl.ext o15 hx); (try replace f10 := f10.ext hx); replace hC := hC.ext hx; replace hO := hO.extend hx; clear hx)
        | (go_at_call 21; refine (SameInts_any v13 v9 N _ o13 o9).mono ?_; rintro e w1 ⟨rfl, hx⟩; (try replace o2 := Sl.ext o2 hx); (try replace o9 := Sl.ext o9 hx); (try replace o11 := Sl.ext o11 hx); (try replace o13 := Sl.ext o13 hx); (try replace o15 := Sl.ext o15 hx); (try replace f10 := f10.ext hx); replace hC := hC.ext hx; replace hO := hO.extend hx; clear hx)
        | (go_at_call 12; refine (CSlot_any hC).mono ?_; rintro e w1 ⟨rfl, hx⟩; replace f10 := f10.ext hx; replace hC := hC.ext hx; replace hO := hO.extend hx; clear hx)
        | ((with_reducible refine at_idx ?_); refine w_actidx Try.elAC _ _ k rfl rfl rfl rfl hl0.out hO.ext hd.out ?_; intro pa u t hrow hu0 ht1; have hone := hide_ (actc_one (d := d) hu0 ht1); replace hrow := hide_ hrow; have hu := hide_ hu0; have htt := hide_ ht1; clear hu0 ht1)
        | ((with_reducible refine at_load ?_); refine w_ploadN Try.stAC _ rfl rfl rfl hrow.out rfl ?_)
        | ((with_reducible refine at_alloc ?_); refine w_allocN Try.stAC rfl rfl ?_; intro g10 w3 hg10 hx2 f10; have n10 := hide_ (show ¬ H g10 from fun h => by have := hC.lt g10 h; omega); have nq10 := hide_ (show ¬ g10 = q from fun h => by have := hC.obj.lt; omega))
        | ((with_reducible refine at_store ?_); refine w_astoreN Try.stAC _ _ (us := aRow d u t) rfl rfl rfl rfl rfl f10 rfl rfl hone.out ?_; intro w4 hm3 f9; replace hx2 := hm3.after hx2 (fun i hi => by subst hi; exact hg10); replace f10 : Fs w4 g10 (aRow d u t) := f9; replace hC := hC.ext hx2; replace hO := hO.extend hx2; clear hm3 f9 hx2 hone)
        | ((with_reducible refine at_field ?_); refine w_fieldN (i := 0) (off := 0) (by kernel_rfl) _ _ rfl rfl rfl ?_)
        | ((with_reducible refine at_field ?_); refine w_fieldN (i := 2) (off := 2) (by kernel_rfl) _ _ rfl rfl rfl ?_)
        | ((with_reducible refine at_load ?_); refine w_loadN Try.stBlkN _ (bRow d.b u) rfl rfl rfl f10 rfl (blk_at d u t) ?_)
        | ((with_reducible refine at_load ?_); refine w_fload _ rfl rfl rfl f10 rfl (agg_of (by kernel_rfl)) ?_)
        | ((with_reducible refine at_bi ?_); refine i_len _ rfl rfl (v := v2) rfl o2 ?_)
        | fail) <;> (try simp only [Act.put, List.setIfInBounds_toArray, List.set_cons_zero, List.set_cons_succ]))
      go_roundw
      case rel => exact ⟨k + 1, H2, K, V, slot, by go_num, hlt'.out, hC, hgo.out, hwo.out, hO⟩
      case measure => have := hlt'.out; simp [RowKit.intOf]; omega
    · obtain ⟨e1, e2, e3⟩ := tk_yes hto
      obtain ⟨hs1, hs2, hs3⟩ := tkOk_iff hto
      have ts : decide (slot < d.b.slot) = false := decide_eq_false (by omega)
      have hnm0 := hwo.names hgo hto
      have hgo2 := hide_ (show TrS.Good ⟨(tkT l0 slot ⟨K, V⟩ d.b).known, (tkT l0 slot ⟨K, V⟩ d.b).wait⟩ from tkT_good hgo)
      have hwo2 := hide_ (show Won l0 slot ⟨(tkT l0 slot ⟨K, V⟩ d.b).known, (tkT l0 slot ⟨K, V⟩ d.b).wait⟩ from hwo.take hgo)
      obtain ⟨L, hL0⟩ : ∃ L, tkL l0 slot ⟨K, V⟩ d.b = L := ⟨_, rfl⟩
      have hll := hide_ (show L.length ≤ 400 from by
        obtain ⟨m, h1, h2⟩ := add_known (d := d.b) hgo
        have h3 : (TrS.add ⟨K, V⟩ d.b).1.known.length ≤ 400 := (add_good (d := d.b) hgo).room
        rw [← hL0, e2, h2, List.length_map]
        rw [h1, List.length_append] at h3
        omega)
      rw [hL0] at hnm0
      have hL := hide_ hL0
      have e3' := hide_ e3
      have hwn := hide_ hs2
      have hnm := hide_ hnm0
      obtain ⟨⟨K2, V2⟩, hT0⟩ : ∃ R, tkT l0 slot ⟨K, V⟩ d.b = R := ⟨_, rfl⟩
      have hT := hide_ hT0
      rw [hT0] at hgo2 hwo2
      replace hgo := hide_ hgo
      clear hge hlt hd0 hN0 hNV0 hto e1 e2 e3 hs1 hs2 hs3 hnm0 hL0 hT0 hwo
      go_wp2_with ((first
        | (go_at_call 19; refine (BCopy_any (b := d.b) (hu.out.ext TxR.stays hO.ext) hok.out.few).mono ?_; rintro e w5 ⟨uc, rfl, oc, hx⟩; replace oc := oc.recs; (try replace o2 := Sl.ext o2 hx); (try replace o9 := Sl.ext o9 hx); (try replace o11 := Sl.ext o11 hx); (try replace o13 := Sl.ext o13 hx); (try replace o15 := Sl.ext o15 hx); (try replace f10 := f10.ext hx); replace hC := hC.ext hx; replace hO := hO.extend hx; clear hx)
        | (go_at_call 9; refine (CTake_any (b := d.b) hC hgo.out.few oc hok.out.raw).mono ?_; rintro e w6 ⟨v2, H2, rfl, o2, hC2, hU⟩; rw [hT.out] at hC2; rw [hL.out] at o2; rw [e3'.out]; replace o2 := OwnI.ints o2; replace f10 := f10.mod hU.mod n10.out; replace hC := hC2; replace hO := hO.ch hU; clear hC2 hU oc o9 o11 s9 s11)
        | (go_at_call 34; refine (Wins_any (s := d.b.slot) (n := d.b.miner) hD.out (h0.out.ext hO.ext)).mono ?_; rintro e w1 ⟨rfl, hx⟩; rw [hwn.out]; (try replace o2 := Sl.ext o2 hx); (try replace o9 := Sl.ext o9 hx); (try replace o11 := Sl.ext o11 hx); (try replace o13 := Sl.ext o13 hx); (try replace o15 := Sl.ext o15 hx); (try replace f10 := f10.ext hx); replace hC := hC.ext hx; replace hO := hO.extend hx; clear hx)
        | (go_at_call 23; refine (CTree_any hC).mono ?_; rintro e w1 ⟨rfl, hx⟩; (try replace o2 := Sl.ext o2 hx); (try replace o9 := Sl.ext o9 hx); (try replace o11 := Sl.ext o11 hx); (try replace o13 := Sl.ext o13 hx); (try replace o15 := Sl.ext o15 hx); (try replace f10 := f10.ext hx); replace hC := hC.ext hx; replace hO := hO.extend hx; clear hx)
        | (go_at_call 35; refine (Names_any hC.tr).mono ?_; rintro e w1 ⟨v9, rfl, r9, hx⟩; rw [hN.out] at r9; have s9 := hide_ (show ∀ k, v9.ownBlock = some k → ¬ H k from fun k hk h => by have h1 := own_block_lt (g := k) r9 hk; have h2 := hC.lt k h; omega); have o9 := OwnI.ints r9; clear r9; (try replace o2 := Sl.ext o2 hx); (try replace o9 := Sl.ext o9 hx); (try replace o11 := Sl.ext o11 hx); (try replace o13 := Sl.ext o13 hx); (try replace o15 := Sl.ext o15 hx); (try replace f10 := f10.ext hx); replace hC := hC.ext hx; replace hO := hO.extend hx; clear hx)
        | (go_at_call 36; refine (Waiting_any hC.tr).mono ?_; rintro e w1 ⟨v11, rfl, r11, hx⟩; rw [hNV.out] at r11; have s11 := hide_ (show ∀ k, v11.ownBlock = some k → ¬ H k from fun k hk h => by have h1 := own_block_lt (g := k) r11 hk; have h2 := hC.lt k h; omega); have o11 := OwnI.ints r11; clear r11; (try replace o2 := Sl.ext o2 hx); (try replace o9 := Sl.ext o9 hx); (try replace o11 := Sl.ext o11 hx); (try replace o13 := Sl.ext o13 hx); (try replace o15 := Sl.ext o15 hx); (try replace f10 := f10.ext hx); replace hC := hC.ext hx; replace hO := hO.extend hx; clear hx)
        | (go_at_call 12; refine (CSlot_any hC).mono ?_; rintro e w1 ⟨rfl, hx⟩; (try replace o2 := Sl.ext o2 hx); (try replace o9 := Sl.ext o9 hx); (try replace o11 := Sl.ext o11 hx); (try replace o13 := Sl.ext o13 hx); (try replace o15 := Sl.ext o15 hx); (try replace f10 := f10.ext hx); replace hC := hC.ext hx; replace hO := hO.extend hx; clear hx)
        | ((with_reducible refine at_idx ?_); refine w_actidx Try.elAC _ _ k rfl rfl rfl rfl hl0.out hO.ext hd.out ?_; intro pa u t hrow hu0 ht1; have hone := hide_ (actc_one (d := d) hu0 ht1); replace hrow := hide_ hrow; have hu := hide_ hu0; have htt := hide_ ht1; clear hu0 ht1)
        | ((with_reducible refine at_load ?_); refine w_ploadN Try.stAC _ rfl rfl rfl hrow.out rfl ?_)
        | ((with_reducible refine at_alloc ?_); refine w_allocN Try.stAC rfl rfl ?_; intro g10 w3 hg10 hx2 f10; have n10 := hide_ (show ¬ H g10 from fun h => by have := hC.lt g10 h; omega); have nq10 := hide_ (show ¬ g10 = q from fun h => by have := hC.obj.lt; omega))
        | ((with_reducible refine at_store ?_); refine w_astoreN Try.stAC _ _ (us := aRow d u t) rfl rfl rfl rfl rfl f10 rfl rfl hone.out ?_; intro w4 hm3 f9; replace hx2 := hm3.after hx2 (fun i hi => by subst hi; exact hg10); replace f10 : Fs w4 g10 (aRow d u t) := f9; replace hC := hC.ext hx2; replace hO := hO.extend hx2; clear hm3 f9 hx2 hone)
        | ((try refine w_yes _ _ _ rfl rfl rfl ?_); refine w_fieldO Try.stBlk _ g10 2 _ rfl rfl rfl (by omega) ?_)
        | ((with_reducible refine at_field ?_); refine w_fieldN (i := 0) (off := 0) (by kernel_rfl) _ _ rfl rfl rfl ?_)
        | ((with_reducible refine at_field ?_); (try refine w_yes _ _ _ rfl rfl rfl ?_); refine w_fieldN (i := 2) (off := 2) (by kernel_rfl) _ _ rfl rfl rfl ?_)
        | ((with_reducible refine at_load ?_); refine w_loadN Try.stBlkN _ (bRow d.b u) rfl rfl rfl f10 rfl (blk_at d u t) ?_)
        | ((with_reducible refine at_load ?_); (try refine w_yes _ _ _ rfl rfl rfl ?_); refine w_fload _ rfl rfl rfl f10 rfl (agg_of (by kernel_rfl)) ?_)
        | ((with_reducible refine at_bi ?_); refine i_len _ rfl rfl (v := v2) rfl o2 ?_)
        | fail) <;> (try simp only [Act.put, List.setIfInBounds_toArray, List.set_cons_zero, List.set_cons_succ]))
      go_loopw [110] (fun i wx => ∃ z : Nat, i = .int .i64 z ∧ z ≤ L.length ∧ Ext w1 wx) (fun i _ => L.length - (RowKit.intOf i).toNat)
      case atStart => exact ⟨0, rfl, Nat.zero_le _, Ext.refl _⟩
      case round =>
        obtain ⟨z, rfl, hz, hX⟩ := hrel
        by_cases hge : L.length ≤ z
        · obtain rfl : z = L.length := by omega
          have t3 : decide (L.length < L.length) = false := by simp
          clear hge hz
          go_wp2
          go_roundw
          case rel => exact ⟨k + 1, H2, K2, V2, slot, by go_num, hlt'.out, hC.ext hX, hgo2.out, hwo2.out, hO.extend hX⟩
          case measure => have := hlt'.out; simp [RowKit.intOf]; omega
        have hzl : z < L.length := by omega
        have t3 : decide (z < L.length) = true := by simpa using hzl
        obtain ⟨n, hn0⟩ : ∃ n, L[z] = n := ⟨_, rfl⟩
        have hn := hide_ hn0
        obtain ⟨hnI, hnw, hns⟩ := hnm.out n (hn0 ▸ List.getElem_mem hzl)
        obtain ⟨sn, hsn0⟩ : ∃ sn, nmS n = sn := ⟨_, rfl⟩
        obtain ⟨mn, hmn0⟩ : ∃ mn, nmM n = mn := ⟨_, rfl⟩
        rw [hsn0, hmn0] at hnw
        rw [hsn0] at hns
        have t4 : decide (slot < sn) = false := decide_eq_false (by omega)
        have hsn := hide_ hsn0
        have hmn := hide_ hmn0
        have hz4 : z ≤ 400 := by have := hll.out; omega
        have hzl' := hide_ hzl
        replace hnI := hide_ hnI
        replace hnw := hide_ hnw
        clear hge hn0 hsn0 hmn0 hns
        go_wp2_with ((first
          | (go_at_call 37; refine (Slot_any n hnI.out.1 hnI.out.2 _).mono ?_; rintro e w9 ⟨rfl, hx⟩; rw [hsn.out]; replace hX := hX.trans hx; clear hx)
          | (go_at_call 38; refine (Miner_any n hnI.out.1 hnI.out.2 _).mono ?_; rintro e w9 ⟨rfl, hx⟩; rw [hmn.out]; replace hX := hX.trans hx; clear hx)
          | (go_at_call 34; refine (Wins_any (s := sn) (n := mn) hD.out (h0.out.ext (hO.ext.trans hX))).mono ?_; rintro e w9 ⟨rfl, hx⟩; rw [hnw.out]; replace hX := hX.trans hx; clear hx)
          | ((with_reducible refine at_idx ?_); refine i_idx _ _ z rfl rfl rfl (Sl.ext o2 hX) rfl hzl'.out ?_; intro ad had; rw [hn.out] at had)
          | fail) <;> (try simp only [Act.put, List.setIfInBounds_toArray, List.set_cons_zero, List.set_cons_succ]))
        go_roundw
        case rel => exact ⟨z + 1, by go_num, hzl'.out, hX⟩
        case measure => have := hzl'.out; simp [RowKit.intOf]; omega

set_option maxRecDepth 100000 in
theorem chainRefuses_lifted (os : Os) (started : os.Started) (H : Type) (enc : TypeId × Value → H) :
    ReturnsInHanded {} Try.checked os 7 .any (Rows.chainRefusesSpec.pre6 enc Try.prog Try.f7 Rows.chainRefusesRow.domain false) (Rows.chainRefusesSpec.post enc Try.prog Try.f7 false true false false) := by
  refine law_lifted (s := Rows.chainRefusesSpec) (conds := Rows.chainRefusesRow.domain) Try.func7 (by kernel_rfl) rfl (fun H ds h => by
      rw [show Try.f7.params.size = 2 from rfl] at h
      match ds, h with
      | [d0, d1], _ => rfl) rfl rfl (by decide +kernel) os started H enc
    (ChangeSpec.witness6 (enc := enc) (C := Try.checked) false ⟨#[], #[.slice none 0 0, .slice none 0 0], []⟩ 8 (by kernel_rfl) (by kernel_rfl) (by kernel_rfl) (by kernel_rfl)) ?_
  intro W base args ds p hval hA hsz _
  have hp : Try.f7.params.toList = [24, 33] := rfl
  rw [hp] at hA hsz
  obtain ⟨v0, v1, d0, d1, p0, p1, rfl, rfl, rfl, h0, h1⟩ := trodAll_two hA
  obtain ⟨l0, a0, b0, c0⟩ := arg_ints hsz (j := 0) rfl rfl (hval 0 24 v0 rfl rfl) h0
  obtain ⟨l1, k1⟩ := arg_Acts11 hsz (j := 1) rfl rfl (hval 1 33 v1 rfl rfl) h1
  exact chainRefuses_law v0 l0 v1 l1 W a0 b0 k1

theorem chainRefuses_holds : Rows.ChainRefusesSaid :=
  OpenClaim.holds_of_wide 7 Try.f7 rfl rfl rfl rfl rfl rfl rfl ⟨rfl, rfl, rfl, rfl, rfl⟩ rfl rfl rfl rfl rfl (by kernel_rfl) Try.func7 (by kernel_rfl)
    (of_decide_eq_true (by kernel_rfl)) (by unfold Func.isWrapper; first | (rw [if_pos (by decide +kernel)]; kernel_rfl) | (rw [if_neg (by decide +kernel)]; exact ⟨rfl, rfl⟩))
    (fun os started H enc _ => chainRefuses_lifted os started H enc)
#print axioms chainRefuses_holds

end Go.Proofs.Ytpnbkgeglgiihaa
