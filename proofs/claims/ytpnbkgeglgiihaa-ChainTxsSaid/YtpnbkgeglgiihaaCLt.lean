/- The statement ChainTxs: a block that is made has no transaction twice, none that is on the way already, and none that wasn't offered; of what was offered, from the first one on. No condition. -/
import Derived.Test.YtpnbkgeglgiihaaCLa
import Derived.Test.YtpnbkgeglgiihaaCLs
import Derived.Test.YtpnbkgeglgiihaaCAct
import Derived.Test.YtpnbkgeglgiihaaArgI
import Derived.Test.YtpnbkgeglgiihaaLotR
namespace Go.Proofs.Ytpnbkgeglgiihaa
set_option maxRecDepth 100000
open Go.RowKit Go.ChangeShapes Go.WideShapes Go.ChangeAt

set_option maxRecDepth 100000 in
set_option maxHeartbeats 6400000 in
theorem chainTxs_law (v0 : Value) (l0 : List Int) (v1 : Value) (l : List ActC) (v2 : Value) (txs : List TxD) (W : World) (h00 : Ints W v0 l0) (_hI : I64s l0) (hl00 : Recs 8 ActCR W v1 l) (ht00 : Recs 2 TxR W v2 txs) :
    Calls Try.prog 6 #[v0, v1, v2] W fun e w' => e = .returned (.bool true) ∧ Ext W w' := by
  refine calls_keep ?_
  have h0 := hide_ h00
  have hl0 := hide_ hl00
  have ht0 := hide_ ht00
  have hmax := hl00.len_le
  have hmax2 := ht00.len_le
  unfold maxLen at hmax hmax2
  have hraws := hide_ (fun k d (h : l[k]? = some d) => acts_at hl00 h)
  have htraw := hide_ (recs_rows ht00).2
  have htrow := hide_ (recs_rows ht00).1
  clear h00 hl00 ht00 _hI
  by_cases hD0 : DrOk l0
  rotate_left
  · have e0 := hide_ (show lchk l0 = 101 from if_neg hD0)
    clear hD0
    go_enter Try.func6, Try.ntmps6
    go_wp2_with (first
      | (go_at_call 10; refine (chainAlive_any _).mono ?_; rintro e w2 ⟨rfl, hX⟩)
      | (go_at_call 13; refine (refCheck_any (h0.out.ext hX)).mono ?_; rintro e w4 ⟨rfl, hx⟩; rw [e0.out]; replace hX := hX.trans hx; clear hx)
      | fail)
    go_ret
    exact Keep.intro ⟨rfl, hX⟩
  have e0 := hide_ (show lchk l0 = 0 from if_pos hD0)
  by_cases hb1 : 40 < l.length
  · have t1 : decide ((40 : Int) < (l.length : Int)) = true := decide_eq_true (by omega)
    clear hD0 hb1
    go_enter Try.func6, Try.ntmps6
    go_wp2_with ((first
      | (go_at_call 10; refine (chainAlive_any _).mono ?_; rintro e w2 ⟨rfl, hX⟩)
      | (go_at_call 13; refine (refCheck_any (h0.out.ext hX)).mono ?_; rintro e w4 ⟨rfl, hx⟩; rw [e0.out]; replace hX := hX.trans hx; clear hx)
      | ((with_reducible refine at_bi ?_); (try refine w_yes _ _ _ rfl rfl rfl ?_); refine w_rlen Try.elAC _ rfl rfl rfl (hl0.out.ext ActCR.stays hX) ?_)
      | fail) <;> (try simp only [Act.put, List.setIfInBounds_toArray, List.set_cons_zero, List.set_cons_succ]))
    go_ret
    exact Keep.intro ⟨rfl, hX⟩
  have t1 : decide ((40 : Int) < (l.length : Int)) = false := decide_eq_false (by omega)
  by_cases hb2 : 30 < txs.length
  · have t3 : decide ((30 : Int) < (txs.length : Int)) = true := decide_eq_true (by omega)
    clear hD0 hb1 hb2
    go_enter Try.func6, Try.ntmps6
    go_wp2_with ((first
      | (go_at_call 10; refine (chainAlive_any _).mono ?_; rintro e w2 ⟨rfl, hX⟩)
      | (go_at_call 13; refine (refCheck_any (h0.out.ext hX)).mono ?_; rintro e w4 ⟨rfl, hx⟩; rw [e0.out]; replace hX := hX.trans hx; clear hx)
      | ((with_reducible refine at_bi ?_); (try refine w_yes _ _ _ rfl rfl rfl ?_); refine w_rlen Try.elAC _ rfl rfl rfl (hl0.out.ext ActCR.stays hX) ?_)
      | ((with_reducible refine at_bi ?_); (try refine w_yes _ _ _ rfl rfl rfl ?_); refine w_rlen Try.elTx _ rfl rfl rfl (ht0.out.ext TxR.stays hX) ?_)
      | fail) <;> (try simp only [Act.put, List.setIfInBounds_toArray, List.set_cons_zero, List.set_cons_succ]))
    go_ret
    exact Keep.intro ⟨rfl, hX⟩
  have t3 : decide ((30 : Int) < (txs.length : Int)) = false := decide_eq_false (by omega)
  have hD := hide_ hD0
  have hbig := hide_ (show (([] : List Int).length + l0.length) * 8 ≤ 140737488355328 from by have := hD0.1; simp; omega)
  clear hD0
  go_enter Try.func6, Try.ntmps6
  go_wp2_with ((first
    | (go_at_call 8; refine (CNew_any (deep := 0) i8 hD.out ⟨by omega, by omega⟩).mono ?_; rintro e w1 ⟨q, p, dv, H, rfl, hC, hx, hq, hH⟩; have hO : Out W (CQ H q) w1 := ⟨hX.trans hx, fun k hk => hk.elim (fun e => Nat.le_trans hX.size (hH k e)) (fun e => e ▸ Nat.le_trans hX.size hq)⟩; clear hX hx hq hH i8)
    | (go_at_call 10; refine (chainAlive_any _).mono ?_; rintro e w2 ⟨rfl, hX⟩)
    | (go_at_call 13; refine (refCheck_any (h0.out.ext hX)).mono ?_; rintro e w4 ⟨rfl, hx⟩; rw [e0.out]; replace hX := hX.trans hx; clear hx)
    | ((with_reducible refine at_bi ?_); (try refine w_yes _ _ _ rfl rfl rfl ?_); refine w_rlen Try.elAC _ rfl rfl rfl (hl0.out.ext ActCR.stays hX) ?_)
    | ((with_reducible refine at_bi ?_); (try refine w_yes _ _ _ rfl rfl rfl ?_); refine w_rlen Try.elTx _ rfl rfl rfl (ht0.out.ext TxR.stays hX) ?_)
    | ((with_reducible refine at_lit ?_); refine w_new Try.elI (i64s []) rfl rfl rfl (i64s_cells _) rfl (by omega) ?_; intro v5 w5 hx3 o5; replace o5 : OwnI _ w5 v5 [] := o5; have hs5 := hx3.size)
    | ((with_reducible refine at_bi ?_); refine appi _ _ rfl rfl rfl rfl o5 (h0.out.ext (hX.trans hx3)) hbig.out hs5 ?_; intro v9 w9 o9 hb9 hg9 hg9'; rw [List.nil_append] at o9; have i8 := o9.ints; have hx4 := hx3.trans' hb9; replace hX := hX.trans hx4; clear hb9 hg9 hg9' hx3 hx4 hs5 o5 o9)
    | ((with_reducible refine at_bi ?_); refine w_rlen Try.elAC _ rfl rfl rfl (hl0.out.ext ActCR.stays hO.ext) ?_)
    | fail) <;> (try simp only [Act.put, List.setIfInBounds_toArray, List.set_cons_zero, List.set_cons_succ]))
  go_loopw [41] (fun i wr => ∃ (k : Nat) (H : Nat → Prop) (K V : List BlkD) (slot : Int), i = .int .i64 k ∧ k ≤ l.length ∧ ChC H wr q p dv l0 0 slot K V ∧ TrS.Good ⟨K, V⟩ ∧ Out W (CQ H q) wr) (fun i _ => l.length - (RowKit.intOf i).toNat)
  case atStart => exact ⟨0, H, [], [], 0, rfl, Nat.zero_le _, hC, TrS.Good.nil, hO⟩
  case round =>
    clear hC hO
    obtain ⟨k, H, K, V, slot, rfl, hk, hC, hgo, hO⟩ := hrel
    by_cases hge : l.length ≤ k
    rotate_left
    · have hlt : k < l.length := by omega
      have t2 : decide (k < l.length) = true := by simpa using hlt
      obtain ⟨d, hd0⟩ : ∃ d, l[k]? = some d := ⟨_, List.getElem?_eq_getElem hlt⟩
      have hd := hide_ hd0
      have hok := hide_ (hraws.out k d hd0)
      have hlt' := hide_ hlt
      have hk4 : k ≤ 40 := by omega
      have hg2 := hide_ (show TrS.Good ⟨(tkT l0 slot ⟨K, V⟩ d.b).known, (tkT l0 slot ⟨K, V⟩ d.b).wait⟩ from tkT_good hgo)
      replace hgo := hide_ hgo
      clear hge hlt hd0
      cases c0 : (d.k == 0)
      · cases c1 : (d.k == 1)
        · go_wp2_with ((first
            | ((with_reducible refine at_idx ?_); refine w_actidx Try.elAC _ _ k rfl rfl rfl rfl hl0.out hO.ext hd.out ?_; intro pa u t hrow hu0 ht1; have hone := hide_ (actc_one (d := d) hu0 ht1); replace hrow := hide_ hrow; have hu := hide_ hu0; have htt := hide_ ht1; clear hu0 ht1)
            | ((with_reducible refine at_load ?_); refine w_ploadN Try.stAC _ rfl rfl rfl hrow.out rfl ?_)
            | ((with_reducible refine at_alloc ?_); refine w_allocN Try.stAC rfl rfl ?_; intro g10 w3 hg10 hx2 f10)
            | ((with_reducible refine at_store ?_); refine w_astoreN Try.stAC _ _ (us := aRow d u t) rfl rfl rfl rfl rfl f10 rfl rfl hone.out ?_; intro w4 hm3 f9; replace hx2 := hm3.after hx2 (fun i hi => by subst hi; exact hg10); replace f10 : Fs w4 g10 (aRow d u t) := f9; replace hC := hC.ext hx2; replace hO := hO.extend hx2; clear hm3 f9 hx2 hg10 hone)
            | ((with_reducible refine at_field ?_); refine w_fieldN (i := 0) (off := 0) (by kernel_rfl) _ _ rfl rfl rfl ?_)
            | ((with_reducible refine at_load ?_); refine w_fload _ rfl rfl rfl f10 rfl (agg_of (by kernel_rfl)) ?_)
            | fail) <;> (try simp only [Act.put, List.setIfInBounds_toArray, List.set_cons_zero, List.set_cons_succ]))
          go_roundw
          case rel => exact ⟨k + 1, H, K, V, slot, by go_num, hlt'.out, hC, hgo.out, hO⟩
          case measure => have := hlt'.out; simp [RowKit.intOf]; omega
        · go_wp2_with ((first
            | (go_at_call 14; refine (CNext_any (n := d.n) hC hok.out.n).mono ?_; rintro e w6 ⟨rfl, hC2, hm⟩; replace hC := hC2; replace hO := hO.nx hm; clear hC2 hm)
            | ((with_reducible refine at_idx ?_); refine w_actidx Try.elAC _ _ k rfl rfl rfl rfl hl0.out hO.ext hd.out ?_; intro pa u t hrow hu0 ht1; have hone := hide_ (actc_one (d := d) hu0 ht1); replace hrow := hide_ hrow; have hu := hide_ hu0; have htt := hide_ ht1; clear hu0 ht1)
            | ((with_reducible refine at_load ?_); refine w_ploadN Try.stAC _ rfl rfl rfl hrow.out rfl ?_)
            | ((with_reducible refine at_alloc ?_); refine w_allocN Try.stAC rfl rfl ?_; intro g10 w3 hg10 hx2 f10)
            | ((with_reducible refine at_store ?_); refine w_astoreN Try.stAC _ _ (us := aRow d u t) rfl rfl rfl rfl rfl f10 rfl rfl hone.out ?_; intro w4 hm3 f9; replace hx2 := hm3.after hx2 (fun i hi => by subst hi; exact hg10); replace f10 : Fs w4 g10 (aRow d u t) := f9; replace hC := hC.ext hx2; replace hO := hO.extend hx2; clear hm3 f9 hx2 hg10 hone)
            | ((with_reducible refine at_field ?_); refine w_fieldN (i := 0) (off := 0) (by kernel_rfl) _ _ rfl rfl rfl ?_)
            | ((with_reducible refine at_field ?_); refine w_fieldN (i := 1) (off := 1) (by kernel_rfl) _ _ rfl rfl rfl ?_)
            | ((with_reducible refine at_load ?_); refine w_fload _ rfl rfl rfl f10 rfl (agg_of (by kernel_rfl)) ?_)
            | fail) <;> (try simp only [Act.put, List.setIfInBounds_toArray, List.set_cons_zero, List.set_cons_succ]))
          go_roundw
          case rel => exact ⟨k + 1, H, K, V, _, by go_num, hlt'.out, hC, hgo.out, hO⟩
          case measure => have := hlt'.out; simp [RowKit.intOf]; omega
      · have c1 : (d.k == 1) = false := by
          have : d.k = 0 := by simpa using c0
          rw [this]; rfl
        go_wp2_with ((first
          | (go_at_call 19; refine (BCopy_any (b := d.b) (hu.out.ext TxR.stays hO.ext) hok.out.few).mono ?_; rintro e w5 ⟨uc, rfl, oc, hx⟩; replace oc := oc.recs; replace hC := hC.ext hx; replace hO := hO.extend hx; replace f10 := f10.ext hx; clear hx)
          | (go_at_call 9; refine (CTake_any (b := d.b) hC hgo.out.few oc hok.out.raw).mono ?_; rintro e w6 ⟨v2, H2, rfl, _, hC2, hU⟩; replace f10 := f10.mod hU.mod n10.out; replace hC := hC2; replace hO := hO.ch hU; clear hC2 hU oc)
          | ((with_reducible refine at_idx ?_); refine w_actidx Try.elAC _ _ k rfl rfl rfl rfl hl0.out hO.ext hd.out ?_; intro pa u t hrow hu0 ht1; have hone := hide_ (actc_one (d := d) hu0 ht1); replace hrow := hide_ hrow; have hu := hide_ hu0; have htt := hide_ ht1; clear hu0 ht1)
          | ((with_reducible refine at_load ?_); refine w_ploadN Try.stAC _ rfl rfl rfl hrow.out rfl ?_)
          | ((with_reducible refine at_alloc ?_); refine w_allocN Try.stAC rfl rfl ?_; intro g10 w3 hg10 hx2 f10; have n10 := hide_ (show ¬ H g10 from fun h => by have := hC.lt g10 h; omega))
          | ((with_reducible refine at_store ?_); refine w_astoreN Try.stAC _ _ (us := aRow d u t) rfl rfl rfl rfl rfl f10 rfl rfl hone.out ?_; intro w4 hm3 f9; replace hx2 := hm3.after hx2 (fun i hi => by subst hi; exact hg10); replace f10 : Fs w4 g10 (aRow d u t) := f9; replace hC := hC.ext hx2; replace hO := hO.extend hx2; clear hm3 f9 hx2 hg10 hone)
          | ((with_reducible refine at_load ?_); refine w_loadN Try.stBlkN _ (bRow d.b u) rfl rfl rfl f10 rfl (blk_at d u t) ?_)
          | ((with_reducible refine at_field ?_); refine w_fieldN (i := 0) (off := 0) (by kernel_rfl) _ _ rfl rfl rfl ?_)
          | ((with_reducible refine at_field ?_); refine w_fieldN (i := 2) (off := 2) (by kernel_rfl) _ _ rfl rfl rfl ?_)
          | ((with_reducible refine at_load ?_); refine w_fload _ rfl rfl rfl f10 rfl (agg_of (by kernel_rfl)) ?_)
          | fail) <;> (try simp only [Act.put, List.setIfInBounds_toArray, List.set_cons_zero, List.set_cons_succ]))
        go_roundw
        case rel => exact ⟨k + 1, H2, _, _, slot, by go_num, hlt'.out, hC, hg2.out, hO⟩
        case measure => have := hlt'.out; simp [RowKit.intOf]; omega
    obtain rfl : k = l.length := by omega
    have t2 : decide (l.length < l.length) = false := by simp
    obtain ⟨T, hT0⟩ : ∃ T, TrS.tip K = T := ⟨_, rfl⟩
    obtain ⟨U, hU0⟩ : ∃ U, ids K T = U := ⟨_, rfl⟩
    obtain ⟨L, hL0⟩ : ∃ L, unu U txs = L := ⟨_, rfl⟩
    have hT := hide_ hT0
    have hU := hide_ hU0
    have hL := hide_ hL0
    have hTI := hide_ (show I64 T from hT0 ▸ hC.tipI)
    have hUl := hide_ (show U.length ≤ 12288 from by
      have h1 := idsOf_len hC.rights (TrS.path K T)
      have h2 := path_len K T
      rw [show idsOf K (TrS.path K T) = U from hU0] at h1
      omega)
    have hLl := hide_ (show L.length ≤ 3 from hL0 ▸ unu_len U txs)
    have htbig := hide_ (show (([] : List (List Value)).length + (txs.map TxD.row).length) * 16 ≤ 140737488355328 from by simp; omega)
    have htone := hide_ (row_one (l := txs))
    have hpre := hide_ (fun (j : Nat) (t : TxD) (h : txs[j]? = some t) => (show (t.id ∈ U → (unu U (txs.take (j + 1))).length = (unu U (txs.take j)).length) ∧ (3 ≤ (unu U (txs.take j)).length → (unu U (txs.take (j + 1))).length = (unu U (txs.take j)).length) ∧ (t.id ∉ U → ¬ 3 ≤ (unu U (txs.take j)).length → (unu U (txs.take (j + 1))).length = (unu U (txs.take j)).length + 1 ∧ L[(unu U (txs.take j)).length]? = some t) from ⟨unu_in h, unu_room, fun h1 h2 => hL0 ▸ unu_next h h1 h2⟩))
    have hUm := hide_ (fun (j : Nat) (x n : Int) (h : U[j]? = some x) => mem_take_succ (n := n) h)
    clear hge hk hgo hT0 hU0
    go_wp2_with (first
      | (go_at_call 23; refine (CTree_any hC).mono ?_; rintro e w1 ⟨rfl, hx⟩; replace hC := hC.ext hx; replace hO := hO.extend hx; clear hx)
      | (go_at_call 24; refine (Tip_any hC.tr).mono ?_; rintro e w1 ⟨rfl, hx⟩; rw [hT.out]; replace hC := hC.ext hx; replace hO := hO.extend hx; clear hx)
      | (go_at_call 26; refine (CTxs_any hC hTI.out).mono ?_; rintro e W2 ⟨v10, rfl, o10, hx⟩; rw [hU.out] at o10; replace o10 := hide_ o10.ints; replace hC := hide_ (hC.ext hx); replace hO := hide_ (hO.extend hx).ext; clear hx)
      | fail)
    go_loopw [11] (fun i wr => ∃ m : Nat, i = .int .i64 m ∧ m ≤ 7 ∧ Ext W2 wr) (fun i _ => 7 - (RowKit.intOf i).toNat)
    case atStart => exact ⟨0, rfl, by omega, Ext.refl _⟩
    case round =>
      obtain ⟨m, rfl, hm, hX⟩ := hrel
      by_cases hm7 : m < 7
      rotate_left
      · obtain rfl : m = 7 := by omega
        go_wp2
        go_ret
        exact Keep.intro ⟨rfl, hO.out.trans hX⟩
      have t4 : decide ((m : Int) < 7) = true := decide_eq_true (by omega)
      obtain ⟨qo, hq0⟩ : ∃ qo, mkOk l0 slot (m : Int) K txs = qo := ⟨_, rfl⟩
      obtain ⟨b, hb0⟩ : ∃ b, mkD l0 slot (m : Int) K txs = b := ⟨_, rfl⟩
      have hq := hide_ hq0
      have hb := hide_ hb0
      have hm7' := hide_ hm7
      cases qo
      · clear hm7 hq0 hb0
        go_wp2_with ((first
          | (go_at_call 16; refine (CMake_any (me := (m : Int)) (hC.out.ext hX) r75).mono ?_; rintro e w5 ⟨u, rfl, o4, hx⟩; rw [hb.out] at o4; rw [hb.out, hq.out]; have one4 := blk_one (a := b.slot) (b := b.miner) (c := b.var) (d := b.parent) o4.recs.one'; replace hX := hX.trans hx; clear hx r75)
          | ((with_reducible refine at_lit ?_); refine w_nnew Try.elTxN [] rfl rfl rfl (by simp) rfl (by omega) ?_; intro v73 w3 B hB1 hB2 hx3 hn0)
          | ((with_reducible refine at_bi ?_); refine w_napp0 Try.elTxN _ _ rfl rfl rfl rfl hn0 (htrow.out.ext ((hO.out.trans hX).trans hx3)) htone.out htbig.out ?_; intro v75 w4 hmm hn; rw [List.nil_append] at hn; have r75 := (OwnT.of (lo := 0) (l := txs) hn htraw.out (fun _ _ => Nat.zero_le _)).recs; replace hX := hX.trans (hmm.after hx3 (fun k hk => Nat.le_trans hB1 (And.left hk))); clear hmm hn hn0 hB1 hB2 hx3)
          | ((with_reducible refine at_alloc ?_); refine w_alloc Try.stBlk rfl rfl ?_; intro g12 w2 hg2 hx2 f2)
          | ((with_reducible refine at_store ?_); refine w_astore Try.stBlk _ _ (us := bRow b u) rfl rfl rfl rfl rfl f2 rfl rfl one4 ?_; intro w3 hm3 f3; replace hx2 := hm3.after hx2 (fun i hi => by subst hi; exact hg2); replace hX := hX.trans hx2; clear hm3 f3 hx2 hg2 f2)
          | fail) <;> (try simp only [Act.put, List.setIfInBounds_toArray, List.set_cons_zero, List.set_cons_succ]))
        go_roundw
        case rel => exact ⟨m + 1, by go_num, hm7'.out, hX⟩
        case measure => have := hm7'.out; simp [RowKit.intOf]; omega
      have hbe : b = ⟨slot, (m : Int), 0, T, L⟩ := by rw [← hb0, mkD, if_pos hq0, mkB, hT.out, hU.out, hL0]
      have hwn : win l0 slot (m : Int) = true := by
        unfold mkOk at hq0
        rw [Bool.and_eq_true] at hq0; exact hq0.1
      have hWn := hide_ (fun w' (h : Ext W2 w') => hwn ▸ Wins_any (s := slot) (n := (m : Int)) hD.out (h0.out.ext (hO.out.trans h)))
      have hSl := hide_ (fun w' (h : Ext W2 w') => CSlot_any (hC.out.ext h))
      have hbe' := hide_ hbe
      clear hm7 hq0 hb0 hbe hwn
      go_wp2_with ((first
        | (go_at_call 16; refine (CMake_any (me := (m : Int)) (hC.out.ext hX) r75).mono ?_; rintro e w5 ⟨u, rfl, o4, hx⟩; rw [hb.out, hbe'.out] at o4; rw [hb.out, hq.out, hbe'.out]; have one4 := blk_one (a := slot) (b := (m : Int)) (c := 0) (d := T) o4.recs.one'; replace o4 : Recs 2 TxR _ u L := o4.recs; replace hX := hX.trans hx; clear hx r75)
        | ((with_reducible refine at_lit ?_); refine w_nnew Try.elTxN [] rfl rfl rfl (by simp) rfl (by omega) ?_; intro v73 w3 B hB1 hB2 hx3 hn0)
        | ((with_reducible refine at_bi ?_); refine w_napp0 Try.elTxN _ _ rfl rfl rfl rfl hn0 (htrow.out.ext ((hO.out.trans hX).trans hx3)) htone.out htbig.out ?_; intro v75 w4 hmm hn; rw [List.nil_append] at hn; have r75 := (OwnT.of (lo := 0) (l := txs) hn htraw.out (fun _ _ => Nat.zero_le _)).recs; replace hX := hX.trans (hmm.after hx3 (fun k hk => Nat.le_trans hB1 (And.left hk))); clear hmm hn hn0 hB1 hB2 hx3)
        | ((with_reducible refine at_alloc ?_); refine w_alloc Try.stBlk rfl rfl ?_; intro g12 w2 hg2 hx2 f2)
        | ((with_reducible refine at_store ?_); refine w_astore Try.stBlk _ _ (us := [.int .i64 slot, .int .i64 (m : Nat), .int .i64 0, .int .i64 T, u]) rfl rfl rfl rfl rfl f2 rfl rfl one4 ?_; intro w3 hm3 f12; replace hx2 := hm3.after hx2 (fun i hi => by subst hi; exact hg2); replace hX := hX.trans hx2; have r12 := o4.ext TxR.stays hx2; clear hm3 hx2 hg2 f2 o4)
        | ((with_reducible refine at_bi ?_); refine w_rlen Try.elTx _ rfl rfl rfl (ht0.out.ext TxR.stays (hO.out.trans hX)) ?_)
        | fail) <;> (try simp only [Act.put, List.setIfInBounds_toArray, List.set_cons_zero, List.set_cons_succ]))
      go_loopw [14, 83] (fun u14 i wx => ∃ j : Nat, i = .int .i64 j ∧ j ≤ txs.length ∧ u14 = .int .i64 ((unu U (txs.take j)).length : Nat) ∧ Ext w3 wx) (fun _ i _ => txs.length - (RowKit.intOf i).toNat)
      case atStart => exact ⟨0, rfl, Nat.zero_le _, by rw [List.take_zero]; rfl, Ext.refl _⟩
      case round =>
        obtain ⟨j, rfl, hj, rfl, hY⟩ := hrel
        obtain ⟨a, ha0⟩ : ∃ a, (unu U (txs.take j)).length = a := ⟨_, rfl⟩
        have hal3 : a ≤ 3 := ha0 ▸ unu_len U (txs.take j)
        rw [ha0]
        by_cases hge : txs.length ≤ j
        · obtain rfl : j = txs.length := by omega
          have t5 : decide (txs.length < txs.length) = false := by simp
          have haL : a = L.length := by rw [← ha0, List.take_length, hL.out]
          subst haL
          replace hX := hX.trans hY
          replace f12 := f12.ext hY
          replace r12 := r12.ext TxR.stays hY
          clear hge hj ha0 hY
          go_wp2
          refine wp_region_phx (by kernel_rfl) ?_; intro wd hxd; have F12 := f12.ext hxd; have J := r12.ext TxR.stays hxd
          refine Ph.rest 0 31 (by kernel_rfl) ?_
          refine LinL.step (s := (.val (.int .i64 (L.length : Nat)))) [(14, none)] rfl (by kernel_rfl) (op_out 14 (.int .i64 (L.length : Nat)) rfl (.inl rfl) rfl) ?_
          refine LinL.step (s := (.val (.pointer (some ⟨g12, 4, none⟩)))) [(12, none)] rfl (by kernel_rfl) (op_runs rfl fun σ w' hx hg => ⟨_, runs_field (ρ := σ.eval) (w := w') Try.stBlk (.tmp 12) g12 4 rfl hg.1 (by omega), rfl⟩) ?_
          refine LinL.step (s := (.val (u))) [(124, some 0)] rfl (by kernel_rfl) (op_runs rfl fun σ w' hx hg => ⟨_, runs_fload (ρ := σ.eval) (w := w') (.tmp 124) rfl hg.1 (agg_of (by kernel_rfl) _) (F12.ext hx) rfl, rfl⟩) ?_
          refine LinL.step (s := (.val (.int .i64 (L.length : Nat)))) [(125, some 0)] rfl (by kernel_rfl) (op_runs rfl fun σ w' hx hg => ⟨_, runs_rlen (ρ := σ.eval) (w := w') Try.elTx (.tmp 125) rfl hg.1 (J.ext TxR.stays hx), rfl⟩) ?_
          refine LinL.step (s := (.val (.bool false))) [(123, some 3), (126, some 0)] rfl (by kernel_rfl) (op_runs rfl fun σ w' hx hg => ⟨(.bool false), by have h123 : σ.tmps.getD 123 undef = .int .i64 (L.length : Nat) := hg.1; have h126 : σ.tmps.getD 126 undef = .int .i64 (L.length : Nat) := hg.2.1; unfold Runs execOp; simp [Act.eval, h123, h126, go_sem], rfl⟩) ?_
          refine LinL.step (s := (.val (.bool false))) [(127, some 0)] rfl (by kernel_rfl) (op_copy 127 0 (.val (.bool false)) rfl (.inl rfl) rfl) ?_
          refine LinL.step (s := (.val (v0))) [(0, none), (128, some 0)] rfl (by kernel_rfl) (op_yes (reads := [(0, none)]) 5 128 0 false rfl rfl rfl (op_out 0 (v0) rfl (.inl rfl) rfl)) ?_
          refine LinL.step (s := (.val (.pointer (some ⟨q, 0, none⟩)))) [(7, none), (128, some 1)] rfl (by kernel_rfl) (op_yes (reads := [(7, none)]) 5 128 1 false rfl rfl rfl (op_out 7 (.pointer (some ⟨q, 0, none⟩)) rfl (.inl rfl) rfl)) ?_
          refine LinL.step (s := (.val (.int .i64 slot))) [(130, some 0), (128, some 2)] rfl (by kernel_rfl) (op_yes (reads := [(130, some 0)]) 5 128 2 false rfl rfl rfl (op_calls 12 #[(.tmp 130)] #[22] (fun σ => #[.pointer (some ⟨q, 0, none⟩)]) rfl rfl (fun _ _ => rfl) fun σ w' hx hg => ⟨by have h130 : σ.tmps.getD 130 undef = .pointer (some ⟨q, 0, none⟩) := hg.1; simp only [List.map_toArray, List.map_cons, List.map_nil, Act.eval, h130], retH (hSl.out w' (hX.trans (hxd.trans hx)))⟩)) ?_
          refine LinL.step (s := (.val (.int .i64 (m : Nat)))) [(11, none), (128, some 3)] rfl (by kernel_rfl) (op_yes (reads := [(11, none)]) 5 128 3 false rfl rfl rfl (op_out 11 (.int .i64 (m : Nat)) rfl (.inl rfl) rfl)) ?_
          refine LinL.step (s := (.val (.bool true))) [(129, some 3), (131, some 1), (132, some 0), (128, some 4)] rfl (by kernel_rfl) (op_yes (reads := [(129, some 3), (131, some 1), (132, some 0)]) 5 128 4 false rfl rfl rfl (op_calls 34 #[(.tmp 129), (.tmp 131), (.tmp 132)] #[24, 3, 3] (fun σ => #[v0, .int .i64 slot, .int .i64 (m : Nat)]) rfl rfl (fun _ _ => rfl) fun σ w' hx hg => ⟨by have h129 : σ.tmps.getD 129 undef = v0 := hg.1; have h131 : σ.tmps.getD 131 undef = .int .i64 slot := hg.2.1; have h132 : σ.tmps.getD 132 undef = .int .i64 (m : Nat) := hg.2.2.1; simp only [List.map_toArray, List.map_cons, List.map_nil, Act.eval, h129, h131, h132], retH (hWn.out w' (hX.trans (hxd.trans hx)))⟩)) ?_
          refine LinL.step (s := (.val (.bool false))) [(133, some 0), (128, some 5)] rfl (by kernel_rfl) (op_yes (reads := [(133, some 0)]) 5 128 5 false rfl rfl rfl (op_runs rfl fun σ w' hx hg => ⟨(.bool false), by have h133 : σ.tmps.getD 133 undef = .bool true := hg.1; unfold Runs execOp; simp [Act.eval, h133, go_sem], rfl⟩)) ?_
          refine LinL.step (s := (.val (.bool false))) [(128, some 6), (134, some 0)] rfl (by kernel_rfl) (op_runs rfl fun σ w' hx hg => ⟨_, runs_pick_f (ρ := σ.eval) (w := w') (.tmp 128) (.const (.bool true)) (.tmp 134) rfl hg.1 hg.2.1, rfl⟩) ?_
          refine LinL.step (s := (.val (.bool false))) [(135, some 0)] rfl (by kernel_rfl) (op_copy 135 0 (.val (.bool false)) rfl (.inl rfl) rfl) ?_
          refine LinL.step (s := (.val (.pointer (some ⟨g12, 0, none⟩)))) [(12, none), (136, some 0)] rfl (by kernel_rfl) (op_yes (reads := [(12, none)]) 13 136 0 false rfl rfl rfl (op_runs rfl fun σ w' hx hg => ⟨_, runs_field (ρ := σ.eval) (w := w') Try.stBlk (.tmp 12) g12 0 rfl hg.1 (by omega), rfl⟩)) ?_
          refine LinL.step (s := (.val (.int .i64 slot))) [(137, some 0), (136, some 1)] rfl (by kernel_rfl) (op_yes (reads := [(137, some 0)]) 13 136 1 false rfl rfl rfl (op_runs rfl fun σ w' hx hg => ⟨_, runs_fload (ρ := σ.eval) (w := w') (.tmp 137) rfl hg.1 (agg_of (by kernel_rfl) _) (F12.ext hx) rfl, rfl⟩)) ?_
          refine LinL.step (s := (.val (.pointer (some ⟨q, 0, none⟩)))) [(7, none), (136, some 2)] rfl (by kernel_rfl) (op_yes (reads := [(7, none)]) 13 136 2 false rfl rfl rfl (op_out 7 (.pointer (some ⟨q, 0, none⟩)) rfl (.inl rfl) rfl)) ?_
          refine LinL.step (s := (.val (.int .i64 slot))) [(139, some 0), (136, some 3)] rfl (by kernel_rfl) (op_yes (reads := [(139, some 0)]) 13 136 3 false rfl rfl rfl (op_calls 12 #[(.tmp 139)] #[22] (fun σ => #[.pointer (some ⟨q, 0, none⟩)]) rfl rfl (fun _ _ => rfl) fun σ w' hx hg => ⟨by have h139 : σ.tmps.getD 139 undef = .pointer (some ⟨q, 0, none⟩) := hg.1; simp only [List.map_toArray, List.map_cons, List.map_nil, Act.eval, h139], retH (hSl.out w' (hX.trans (hxd.trans hx)))⟩)) ?_
          refine LinL.step (s := (.val (.bool false))) [(138, some 2), (140, some 0), (136, some 4)] rfl (by kernel_rfl) (op_yes (reads := [(138, some 2), (140, some 0)]) 13 136 4 false rfl rfl rfl (op_runs rfl fun σ w' hx hg => ⟨(.bool false), by have h138 : σ.tmps.getD 138 undef = .int .i64 slot := hg.1; have h140 : σ.tmps.getD 140 undef = .int .i64 slot := hg.2.1; unfold Runs execOp; simp [Act.eval, h138, h140, go_sem], rfl⟩)) ?_
          refine LinL.step (s := (.val (.bool false))) [(136, some 5), (141, some 0)] rfl (by kernel_rfl) (op_runs rfl fun σ w' hx hg => ⟨_, runs_pick_f (ρ := σ.eval) (w := w') (.tmp 136) (.const (.bool true)) (.tmp 141) rfl hg.1 hg.2.1, rfl⟩) ?_
          refine LinL.step (s := (.val (.bool false))) [(142, some 0)] rfl (by kernel_rfl) (op_copy 142 0 (.val (.bool false)) rfl (.inl rfl) rfl) ?_
          refine LinL.step (s := (.val (.pointer (some ⟨g12, 1, none⟩)))) [(12, none), (143, some 0)] rfl (by kernel_rfl) (op_yes (reads := [(12, none)]) 20 143 0 false rfl rfl rfl (op_runs rfl fun σ w' hx hg => ⟨_, runs_field (ρ := σ.eval) (w := w') Try.stBlk (.tmp 12) g12 1 rfl hg.1 (by omega), rfl⟩)) ?_
          refine LinL.step (s := (.val (.int .i64 (m : Nat)))) [(144, some 0), (143, some 1)] rfl (by kernel_rfl) (op_yes (reads := [(144, some 0)]) 20 143 1 false rfl rfl rfl (op_runs rfl fun σ w' hx hg => ⟨_, runs_fload (ρ := σ.eval) (w := w') (.tmp 144) rfl hg.1 (agg_of (by kernel_rfl) _) (F12.ext hx) rfl, rfl⟩)) ?_
          refine LinL.step (s := (.val (.int .i64 (m : Nat)))) [(11, none), (143, some 2)] rfl (by kernel_rfl) (op_yes (reads := [(11, none)]) 20 143 2 false rfl rfl rfl (op_out 11 (.int .i64 (m : Nat)) rfl (.inl rfl) rfl)) ?_
          refine LinL.step (s := (.val (.bool false))) [(145, some 1), (146, some 0), (143, some 3)] rfl (by kernel_rfl) (op_yes (reads := [(145, some 1), (146, some 0)]) 20 143 3 false rfl rfl rfl (op_runs rfl fun σ w' hx hg => ⟨(.bool false), by have h145 : σ.tmps.getD 145 undef = .int .i64 (m : Nat) := hg.1; have h146 : σ.tmps.getD 146 undef = .int .i64 (m : Nat) := hg.2.1; unfold Runs execOp; simp [Act.eval, h145, h146, go_sem], rfl⟩)) ?_
          refine LinL.step (s := (.val (.bool false))) [(143, some 4), (147, some 0)] rfl (by kernel_rfl) (op_runs rfl fun σ w' hx hg => ⟨_, runs_pick_f (ρ := σ.eval) (w := w') (.tmp 143) (.const (.bool true)) (.tmp 147) rfl hg.1 hg.2.1, rfl⟩) ?_
          refine LinL.step (s := (.val (.bool false))) [(148, some 0)] rfl (by kernel_rfl) (op_copy 148 0 (.val (.bool false)) rfl (.inl rfl) rfl) ?_
          refine LinL.step (s := (.val (.pointer (some ⟨g12, 2, none⟩)))) [(12, none), (149, some 0)] rfl (by kernel_rfl) (op_yes (reads := [(12, none)]) 26 149 0 false rfl rfl rfl (op_runs rfl fun σ w' hx hg => ⟨_, runs_field (ρ := σ.eval) (w := w') Try.stBlk (.tmp 12) g12 2 rfl hg.1 (by omega), rfl⟩)) ?_
          refine LinL.step (s := (.val (.int .i64 0))) [(150, some 0), (149, some 1)] rfl (by kernel_rfl) (op_yes (reads := [(150, some 0)]) 26 149 1 false rfl rfl rfl (op_runs rfl fun σ w' hx hg => ⟨_, runs_fload (ρ := σ.eval) (w := w') (.tmp 150) rfl hg.1 (agg_of (by kernel_rfl) _) (F12.ext hx) rfl, rfl⟩)) ?_
          refine LinL.step (s := (.val (.bool false))) [(151, some 0), (149, some 2)] rfl (by kernel_rfl) (op_yes (reads := [(151, some 0)]) 26 149 2 false rfl rfl rfl (op_runs rfl fun σ w' hx hg => ⟨(.bool false), by have h151 : σ.tmps.getD 151 undef = .int .i64 0 := hg.1; unfold Runs execOp; simp [Act.eval, h151, go_sem], rfl⟩)) ?_
          refine LinL.step (s := (.val (.bool false))) [(149, some 3), (152, some 0)] rfl (by kernel_rfl) (op_runs rfl fun σ w' hx hg => ⟨_, runs_pick_f (ρ := σ.eval) (w := w') (.tmp 149) (.const (.bool true)) (.tmp 152) rfl hg.1 hg.2.1, rfl⟩) ?_
          intro wN hxN
          simp only [Fin', List.reverse_cons, List.reverse_nil, List.nil_append, List.cons_append, List.drop_zero, List.take_succ_cons, List.take_zero]
          simp only [Act.put, List.setIfInBounds_toArray, List.set_cons_zero, List.set_cons_succ]
          replace hX := hX.trans (hxd.trans hxN)
          clear hxd hxN F12 J
          go_wp2
          go_roundw
          case rel => exact ⟨m + 1, by go_num, hm7'.out, hX⟩
          case measure => have := hm7'.out; simp [RowKit.intOf]; omega
        have hjl : j < txs.length := by omega
        have t5 : decide (j < txs.length) = true := by simpa using hjl
        obtain ⟨t, ht1⟩ : ∃ t, txs[j]? = some t := ⟨_, List.getElem?_eq_getElem hjl⟩
        have htk := hide_ ht1
        have hp3 := hide_ (hpre.out j t ht1)
        rw [ha0] at hp3
        have hjl' := hide_ hjl
        have hj30 : j ≤ 30 := by omega
        clear hge hjl ht1 ha0
        go_wp2_with ((first
          | ((with_reducible refine at_idx ?_); refine w_tidx Try.elTx _ _ j rfl rfl rfl rfl ht0.out ((hO.out.trans hX).trans hY) htk.out ?_; intro pa hrow; replace hrow := hide_ hrow)
          | ((with_reducible refine at_load ?_); refine w_pload Try.stTx _ rfl rfl rfl hrow.out rfl ?_)
          | ((with_reducible refine at_alloc ?_); refine w_alloc Try.stTx rfl rfl ?_; intro g16 w12 hg12 hx2 f2)
          | ((with_reducible refine at_store ?_); refine w_astore Try.stTx _ _ (us := [.int .i64 t.id, .int .i64 t.fee]) rfl rfl rfl rfl rfl f2 rfl rfl (TxD.one t) ?_; intro w13 hm3 f16; replace hx2 := hm3.after hx2 (fun i hi => by subst hi; exact hg12); replace hY := hY.trans hx2; clear hm3 f2 hx2 hrow hg12)
          | ((with_reducible refine at_bi ?_); refine i_len _ rfl rfl (v := v10) rfl (o10.out.ext (hX.trans hY)) ?_)
          | fail) <;> (try simp only [Act.put, List.setIfInBounds_toArray, List.set_cons_zero, List.set_cons_succ]))
        go_loopw [17, 89] (fun u17 i wy => ∃ z : Nat, i = .int .i64 z ∧ z ≤ U.length ∧ u17 = .bool (decide (t.id ∈ U.take z)) ∧ Ext w13 wy) (fun _ i _ => U.length - (RowKit.intOf i).toNat)
        case atStart => exact ⟨0, rfl, Nat.zero_le _, by simp, Ext.refl _⟩
        case round =>
          obtain ⟨z, rfl, hz, rfl, hZ⟩ := hrel
          by_cases hge : U.length ≤ z
          · obtain rfl : z = U.length := by omega
            have t6 : decide (U.length < U.length) = false := by simp
            rw [List.take_length]
            cases hin : decide (t.id ∈ U)
            · have hnin : t.id ∉ U := by simpa using hin
              cases hr3 : decide (3 ≤ (a : Int))
              · have hn3 : ¬ 3 ≤ a := by have : ¬ (3 : Int) ≤ a := by simpa using hr3
                                         omega
                obtain ⟨hn1, hn2⟩ := hp3.out.2.2 hnin hn3
                have hla := hide_ hn2
                have hst := hide_ hn1
                have hal := hide_ (show a < L.length from (List.getElem?_eq_some_iff.1 hn2).1)
                replace f16 := f16.ext hZ
                replace hY := hY.trans hZ
                replace f12 := f12.ext hY
                replace r12 := r12.ext TxR.stays hY
                clear hge hin hnin hn3 hn1 hn2 hZ hz
                go_wp2
                refine wp_region_phx (by kernel_rfl) ?_; intro wd hxd; have F12 := f12.ext hxd; have F16 := f16.ext hxd; have J := r12.ext TxR.stays hxd
                refine Ph.rest 0 14 (by kernel_rfl) ?_
                refine LinL.step (s := (.val (.int .i64 (a : Nat)))) [(14, none)] rfl (by kernel_rfl) (op_out 14 (.int .i64 (a : Nat)) rfl (.inl rfl) rfl) ?_
                refine LinL.step (s := (.val (.pointer (some ⟨g12, 4, none⟩)))) [(12, none)] rfl (by kernel_rfl) (op_runs rfl fun σ w' hx hg => ⟨_, runs_field (ρ := σ.eval) (w := w') Try.stBlk (.tmp 12) g12 4 rfl hg.1 (by omega), rfl⟩) ?_
                refine LinL.step (s := (.val (u))) [(107, some 0)] rfl (by kernel_rfl) (op_runs rfl fun σ w' hx hg => ⟨_, runs_fload (ρ := σ.eval) (w := w') (.tmp 107) rfl hg.1 (agg_of (by kernel_rfl) _) (F12.ext hx) rfl, rfl⟩) ?_
                refine LinL.step (s := (.val (.int .i64 (L.length : Nat)))) [(108, some 0)] rfl (by kernel_rfl) (op_runs rfl fun σ w' hx hg => ⟨_, runs_rlen (ρ := σ.eval) (w := w') Try.elTx (.tmp 108) rfl hg.1 (J.ext TxR.stays hx), rfl⟩) ?_
                refine LinL.step (s := (.val (.bool false))) [(106, some 3), (109, some 0)] rfl (by kernel_rfl) (op_runs rfl fun σ w' hx hg => ⟨(.bool false), by have h106 : σ.tmps.getD 106 undef = .int .i64 (a : Nat) := hg.1; have h109 : σ.tmps.getD 109 undef = .int .i64 (L.length : Nat) := hg.2.1; unfold Runs execOp; simp [Act.eval, h106, h109, go_sem, hal.out], rfl⟩) ?_
                refine LinL.step (s := (.val (.bool false))) [(110, some 0)] rfl (by kernel_rfl) (op_copy 110 0 (.val (.bool false)) rfl (.inl rfl) rfl) ?_
                refine LinL.step (s := (.val (.pointer (some ⟨g12, 4, none⟩)))) [(12, none), (111, some 0)] rfl (by kernel_rfl) (op_yes (reads := [(12, none)]) 5 111 0 false rfl rfl rfl (op_runs rfl fun σ w' hx hg => ⟨_, runs_field (ρ := σ.eval) (w := w') Try.stBlk (.tmp 12) g12 4 rfl hg.1 (by omega), rfl⟩)) ?_
                refine LinL.step (s := (.val (u))) [(112, some 0), (111, some 1)] rfl (by kernel_rfl) (op_yes (reads := [(112, some 0)]) 5 111 1 false rfl rfl rfl (op_runs rfl fun σ w' hx hg => ⟨_, runs_fload (ρ := σ.eval) (w := w') (.tmp 112) rfl hg.1 (agg_of (by kernel_rfl) _) (F12.ext hx) rfl, rfl⟩)) ?_
                refine LinL.step (s := (.val (.int .i64 (a : Nat)))) [(14, none), (111, some 2)] rfl (by kernel_rfl) (op_yes (reads := [(14, none)]) 5 111 2 false rfl rfl rfl (op_out 14 (.int .i64 (a : Nat)) rfl (.inl rfl) rfl)) ?_
                refine LinL.step (s := (Sp.recp 2 TxR TxR.stays t)) [(113, some 1), (114, some 0), (111, some 3)] rfl (by kernel_rfl) (op_yes (reads := [(113, some 1), (114, some 0)]) 5 111 3 false rfl rfl rfl (op_runs rfl fun σ w' hx hg => rridx (ρ := σ.eval) (w := w') TxR.stays Try.elTx (.tmp 113) (.tmp 114) a rfl hg.1 hg.2.1 (J.ext TxR.stays hx) hla.out)) ?_
                refine LinL.step (s := (.val (.agg #[.int .i64 t.id, .int .i64 t.fee]))) [(115, some 0), (111, some 4)] rfl (by kernel_rfl) (op_yes (reads := [(115, some 0)]) 5 111 4 false rfl rfl rfl (op_runs rfl fun σ w' hx hg => by obtain ⟨p', row, h1, h2, h3, h4, _⟩ := hg.1; subst h4; exact ⟨_, runs_pload (ρ := σ.eval) (w := w') Try.stTx (.tmp 115) rfl h1 h2 h3, rfl⟩)) ?_
                refine LinL.step (s := (.val (.agg #[.int .i64 t.id, .int .i64 t.fee]))) [(16, none), (111, some 5)] rfl (by kernel_rfl) (op_yes (reads := [(16, none)]) 5 111 5 false rfl rfl rfl (op_runs rfl fun σ w' hx hg => ⟨_, runs_aload (ρ := σ.eval) (w := w') Try.stTx (.tmp 16) rfl hg.1 (F16.ext hx) rfl, rfl⟩)) ?_
                refine LinL.step (s := (.val (.bool false))) [(116, some 1), (117, some 0), (111, some 6)] rfl (by kernel_rfl) (op_yes (reads := [(116, some 1), (117, some 0)]) 5 111 6 false rfl rfl rfl (op_runs rfl fun σ w' hx hg => ⟨_, runs_txne (ρ := σ.eval) (w := w') (.tmp 116) (.tmp 117) t t rfl hg.1 hg.2.1, by rw [decide_eq_true rfl]; rfl⟩)) ?_
                refine LinL.step (s := (.val (.bool false))) [(111, some 7), (118, some 0)] rfl (by kernel_rfl) (op_runs rfl fun σ w' hx hg => ⟨_, runs_pick_f (ρ := σ.eval) (w := w') (.tmp 111) (.const (.bool true)) (.tmp 118) rfl hg.1 hg.2.1, rfl⟩) ?_
                intro wN hxN
                simp only [Fin', Sp.recp, List.reverse_cons, List.reverse_nil, List.nil_append, List.cons_append, List.drop_zero, List.take_succ_cons, List.take_zero]
                intro q115 hq115
                simp only [Act.put, List.setIfInBounds_toArray, List.set_cons_zero, List.set_cons_succ]
                replace hY := hY.trans (hxd.trans hxN)
                clear hxd hxN F12 F16 J
                go_wp2
                go_roundw
                case rel => exact ⟨j + 1, by go_num, hjl'.out, by rw [hst.out]; go_num, hY⟩
                case measure => have := hjl'.out; simp [RowKit.intOf]; omega
              · have hst := hide_ (hp3.out.2.1 (by have : (3 : Int) ≤ a := by simpa using hr3
                                                   omega))
                clear hge hin hnin
                go_wp2
                go_roundw
                case rel => exact ⟨j + 1, by go_num, hjl'.out, by rw [hst.out], hY.trans hZ⟩
                case measure => have := hjl'.out; simp [RowKit.intOf]; omega
            · have hst := hide_ (hp3.out.1 (by simpa using hin))
              clear hge hin
              go_wp2
              go_roundw
              case rel => exact ⟨j + 1, by go_num, hjl'.out, by rw [hst.out], hY.trans hZ⟩
              case measure => have := hjl'.out; simp [RowKit.intOf]; omega
          have hzl : z < U.length := by omega
          have t6 : decide (z < U.length) = true := by simpa using hzl
          obtain ⟨x, hx0⟩ : ∃ x, U[z] = x := ⟨_, rfl⟩
          have hx := hide_ hx0
          have hms := hide_ (hUm.out z x t.id (by rw [List.getElem?_eq_getElem hzl, hx0]))
          have hz4 : z ≤ 12288 := by have := hUl.out; omega
          have hzl' := hide_ hzl
          obtain ⟨bi, hbi0⟩ : ∃ bi, decide (t.id ∈ U.take z) = bi := ⟨_, rfl⟩
          rw [hbi0] at hms ⊢
          clear hge hx0 hbi0
          cases bi
          · cases hxt : (x == t.id)
            · have hms2 := hide_ (show decide (t.id ∈ U.take (z + 1)) = false from by rw [hms.out, hxt]; rfl)
              go_wp2_with ((first
                | ((with_reducible refine at_idx ?_); refine i_idx _ _ z rfl rfl rfl (o10.out.ext ((hX.trans hY).trans hZ)) rfl hzl'.out ?_; intro ad had; rw [hx.out] at had)
                | ((with_reducible refine at_field ?_); (try refine w_yes _ _ _ rfl rfl rfl ?_); refine w_field Try.stTx _ _ _ rfl rfl rfl (by omega) ?_)
                | ((with_reducible refine at_load ?_); (try refine w_yes _ _ _ rfl rfl rfl ?_); refine w_fload _ rfl rfl rfl (f16.ext hZ) rfl (agg_of (by kernel_rfl)) ?_)
                | fail) <;> (try simp only [Act.put, List.setIfInBounds_toArray, List.set_cons_zero, List.set_cons_succ]))
              go_roundw
              case rel => exact ⟨z + 1, by go_num, hzl'.out, by rw [hms2.out], hZ⟩
              case measure => have := hzl'.out; simp [RowKit.intOf]; omega
            · have hms2 := hide_ (show decide (t.id ∈ U.take (z + 1)) = true from by rw [hms.out, hxt]; rfl)
              go_wp2_with ((first
                | ((with_reducible refine at_idx ?_); refine i_idx _ _ z rfl rfl rfl (o10.out.ext ((hX.trans hY).trans hZ)) rfl hzl'.out ?_; intro ad had; rw [hx.out] at had)
                | ((with_reducible refine at_field ?_); (try refine w_yes _ _ _ rfl rfl rfl ?_); refine w_field Try.stTx _ _ _ rfl rfl rfl (by omega) ?_)
                | ((with_reducible refine at_load ?_); (try refine w_yes _ _ _ rfl rfl rfl ?_); refine w_fload _ rfl rfl rfl (f16.ext hZ) rfl (agg_of (by kernel_rfl)) ?_)
                | fail) <;> (try simp only [Act.put, List.setIfInBounds_toArray, List.set_cons_zero, List.set_cons_succ]))
              go_roundw
              case rel => exact ⟨z + 1, by go_num, hzl'.out, by rw [hms2.out], hZ⟩
              case measure => have := hzl'.out; simp [RowKit.intOf]; omega
          · have hms2 := hide_ (show decide (t.id ∈ U.take (z + 1)) = true from by rw [hms.out]; rfl)
            go_wp2_with ((first
              | ((with_reducible refine at_idx ?_); refine i_idx _ _ z rfl rfl rfl (o10.out.ext ((hX.trans hY).trans hZ)) rfl hzl'.out ?_; intro ad had; rw [hx.out] at had)
              | fail) <;> (try simp only [Act.put, List.setIfInBounds_toArray, List.set_cons_zero, List.set_cons_succ]))
            go_roundw
            case rel => exact ⟨z + 1, by go_num, hzl'.out, by rw [hms2.out], hZ⟩
            case measure => have := hzl'.out; simp [RowKit.intOf]; omega

set_option maxRecDepth 100000 in
theorem chainTxs_lifted (os : Os) (started : os.Started) (H : Type) (enc : TypeId × Value → H) :
    ReturnsInHanded {} Try.checked os 6 .any (Rows.chainTxsSpec.pre6 enc Try.prog Try.f6 Rows.chainTxsRow.domain false) (Rows.chainTxsSpec.post enc Try.prog Try.f6 false true false false) := by
  refine law_lifted (s := Rows.chainTxsSpec) (conds := Rows.chainTxsRow.domain) Try.func6 (by kernel_rfl) rfl (fun H ds h => by
      rw [show Try.f6.params.size = 3 from rfl] at h
      match ds, h with
      | [d0, d1, d2], _ => rfl) rfl rfl (by decide +kernel) os started H enc
    (ChangeSpec.witness6 (enc := enc) (C := Try.checked) false ⟨#[], #[.slice none 0 0, .slice none 0 0, .slice none 0 0], []⟩ 8 (by kernel_rfl) (by kernel_rfl) (by kernel_rfl) (by kernel_rfl)) ?_
  intro W base args ds p hval hA hsz _
  have hp : Try.f6.params.toList = [24, 33, 28] := rfl
  rw [hp] at hA hsz
  obtain ⟨v0, v1, v2, d0, d1, d2, p0, p1, p2, rfl, rfl, rfl, h0, h1, h2⟩ := trodAll_three hA
  obtain ⟨l0, a0, b0, c0⟩ := arg_ints hsz (j := 0) rfl rfl (hval 0 24 v0 rfl rfl) h0
  obtain ⟨l1, k1⟩ := arg_Acts11 hsz (j := 1) rfl rfl (hval 1 33 v1 rfl rfl) h1
  obtain ⟨l2, k2, m2⟩ := arg_TxsL hsz (j := 2) rfl rfl (hval 2 28 v2 rfl rfl) h2
  exact chainTxs_law v0 l0 v1 l1 v2 l2 W a0 b0 k1 k2

theorem chainTxs_holds : Rows.ChainTxsSaid :=
  OpenClaim.holds_of_wide 6 Try.f6 rfl rfl rfl rfl rfl rfl rfl ⟨rfl, rfl, rfl, rfl, rfl⟩ rfl rfl rfl rfl rfl (by kernel_rfl) Try.func6 (by kernel_rfl)
    (of_decide_eq_true (by kernel_rfl)) (by unfold Func.isWrapper; first | (rw [if_pos (by decide +kernel)]; kernel_rfl) | (rw [if_neg (by decide +kernel)]; exact ⟨rfl, rfl⟩))
    (fun os started H enc _ => chainTxs_lifted os started H enc)
#print axioms chainTxs_holds

end Go.Proofs.Ytpnbkgeglgiihaa
