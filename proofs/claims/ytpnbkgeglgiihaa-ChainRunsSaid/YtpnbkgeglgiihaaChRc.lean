/- The document's chain: Make. -/
import Derived.Test.YtpnbkgeglgiihaaChRb
import Derived.Test.YtpnbkgeglgiihaaCLs
namespace Go.Proofs.Ytpnbkgeglgiihaa
set_option maxRecDepth 100000
open Go.RowKit Go.ChangeShapes Go.WideShapes Go.ChangeAt

/-- A block on the way that isn't below the slot: none is made. -/
theorem mk_late {K : List BlkD} (h : TrS.Uq K) (hs : TrS.Stood K) {slot me : Int} {txs : List TxD} {x : Int} (hx : x ∈ TrS.path K (TrS.tip K)) (hl : slot ≤ x / 65536) : ¬ (mkB slot me K txs).Right := by
  intro hr
  obtain ⟨b, hb, hbn⟩ := TrS.path_get hx
  have hxs := (h.path_slots hs b hb).2 x (by rw [hbn]; exact hx)
  have hp := hr.p
  have hb0 := (h.right b hb).name0
  have hsn := (h.right b hb).slot_name
  rcases hp with hp | ⟨_, hp⟩
  · exact hb0 (by rw [hbn]; exact hp)
  · have hp' : TrS.tip K / 65536 < slot := hp
    rw [← hbn, hsn] at hp'
    omega
set_option maxRecDepth 100000 in
set_option maxHeartbeats 6400000 in
theorem refCMake_any {w : World} {vk vw dv v : Value} {ds : List Int} {deep slot me : Int} {K : List BlkD} {txs : List TxD} (hU0 : TrS.Uq K) (hS0 : TrS.Stood K) (hK0 : Recs 5 BlkR w vk K) (hlen0 : K.length ≤ 400) (hd0 : Ints w dv ds) (hD0 : DrOk ds) (ht0 : Recs 2 TxR w v txs) :
    Calls Try.prog 17 #[.agg (cRow vk vw dv deep slot).toArray, .int .i64 me, v] w fun e w' => ∃ u, e = .returned (.tuple #[.agg (bRow (mkD ds slot me K txs) u).toArray, .bool (mkOk ds slot me K txs)]) ∧ OwnT w.heap.size w' u (mkD ds slot me K txs).txs ∧ Ext w w' := by
  refine calls_keep ?_
  have hU := hide_ hU0
  have hK := hide_ hK0
  have hlen := hide_ hlen0
  have hd := hide_ hd0
  have hD := hide_ hD0
  have ht := hide_ ht0
  have hmax := ht0.len_le
  unfold maxLen at hmax
  have hraws := hide_ (recs_rows ht0).2
  obtain ⟨T, hT0⟩ : ∃ T, TrS.tip K = T := ⟨_, rfl⟩
  have hT := hide_ hT0
  obtain ⟨L, hL0⟩ : ∃ L, TrS.path K T = L := ⟨_, rfl⟩
  have hL := hide_ hL0
  have hL4 := hide_ (show L.length ≤ 4096 from by rw [← hL0]; exact path_len K T)
  obtain ⟨U, hUU0⟩ : ∃ U, ids K T = U := ⟨_, rfl⟩
  have hUU := hide_ hUU0
  have hUl := hide_ (show U.length ≤ 12288 from by
    have h1 := idsOf_len hU0.right L
    rw [← hL0, show idsOf K (TrS.path K T) = U from hUU0, hL0] at h1
    have := hL4.out; omega)
  obtain ⟨ok, hok0⟩ : ∃ ok, mkOk ds slot me K txs = ok := ⟨_, rfl⟩
  obtain ⟨b, hb0⟩ : ∃ b, mkD ds slot me K txs = b := ⟨_, rfl⟩
  rw [hok0, hb0]
  have hnot := hide_ (fun (h : ok = false) => (show b = BlkD.zero from by rw [← hb0, mkD, if_neg (by rw [hok0, h]; decide)]))
  have hlate := hide_ (fun x (hx : x ∈ L) (hl : slot ≤ x / 65536) => (show ok = false from by
    rw [← hok0]
    unfold mkOk
    rw [decide_eq_false (mk_late hU0 hS0 (by rw [hT0, hL0]; exact hx) hl), Bool.and_false]))
  have hname := hide_ (fun x (hx : x ∈ L) => (show wrap64 (x.tdiv 65536) = x / 65536 from by
    obtain ⟨c, hc, e⟩ := path_mem hU0 hS0 (n := T) (x := x) (by rw [hL0]; exact hx)
    have hr := hU0.right c hc
    have h0 : 0 ≤ x := by rw [← e, hr.nm]; exact hr.parts.2.2.2.pos
    have h1 := hr.i64.2
    rw [e] at h1
    rw [Int.tdiv_eq_ediv_of_nonneg h0, wrap64_id (by omega)]))
  obtain ⟨qw, hq0⟩ : ∃ qw, win ds slot me = qw := ⟨_, rfl⟩
  have hq := hide_ hq0
  have hlose := hide_ (fun (h : qw = false) => (show ok = false from by rw [← hok0]; unfold mkOk; rw [hq0, h]; rfl))
  obtain ⟨B, hB0⟩ : ∃ B : BlkD, B = ⟨slot, me, 0, T, unu U txs⟩ := ⟨_, rfl⟩
  have hmk : mkB slot me K txs = B := by rw [mkB, hT0, hUU0, hB0]
  have hBe := hide_ hB0
  have hyes := hide_ (fun (h : qw = true) => (show ok = decide B.Right from by rw [← hok0]; unfold mkOk; rw [hq0, h, hmk]; rfl))
  have hyes2 := hide_ (fun (h : ok = true) => (show b = B from by rw [← hb0, mkD, if_pos (by rw [hok0, h]), hmk]))
  have hTI := hide_ (show I64 T from by
    rcases hU0.tip.mem with ⟨h, _⟩ | ⟨c, hc, hn⟩
    · rw [← hT0, h]; exact ⟨by omega, by omega⟩
    · rw [← hT0, ← hn]; exact (hU0.right c hc).i64)
  have hUm := hide_ (fun (j : Nat) (x n : Int) (h : U[j]? = some x) => mem_take_succ (n := n) h)
  have hrawU := hide_ (fun x (hx : x ∈ unu U txs) => hraws.out x (unu_mem hx))
  clear hU0 hS0 hK0 hlen0 hd0 hD0 ht0 hT0 hL0 hUU0 hok0 hb0 hq0 hB0 hmk
  go_enter Try.func17, Try.ntmps17
  go_wp2_with ((first
    | ((with_reducible refine at_box ?_); refine w_box (.tmp 0) (cRow vk vw dv deep slot) rfl rfl rfl rfl ?_; intro g3 w1 hg3 hX f3; replace f3 := hide_ f3)
    | ((with_reducible refine at_alloc ?_); refine w_alloc Try.stBlk rfl rfl ?_; intro g6 w2 hg6 hx2 f6; have hg36 := hide_ (show ¬ g3 = g6 from fun e => by have := f3.out.lt; omega); replace f3 := hide_ (f3.out.ext hx2); replace hg6 := hide_ (Nat.le_trans hX.size hg6); replace f6 := hide_ f6; replace hX := hX.trans hx2; clear hx2 hg3)
    | ((with_reducible refine at_field ?_); (try refine w_yes _ _ _ rfl rfl rfl ?_); refine w_fieldN (i := 0) (off := 0) (by kernel_rfl) (.tmp 3) _ rfl rfl rfl ?_)
    | ((with_reducible refine at_load ?_); refine w_loadN Try.stDocT _ [vk, vw] rfl rfl rfl f3.out rfl (tree_at _ _ _ _ _) ?_)
    | (go_at_call 22; refine (refTip_any (vw := vw) hU.out (hK.out.ext BlkR.stays hX) hlen.out).mono ?_; rintro e w5 ⟨rfl, hx⟩; rw [hT.out]; replace f3 := hide_ (f3.out.ext hx); replace f6 := hide_ (f6.out.ext hx); replace hX := hX.trans hx; clear hx)
    | (go_at_call 45; refine (refPath_any (vw := vw) (n := T) hU.out (hK.out.ext BlkR.stays hX)).mono ?_; rintro e W1 ⟨v1, rfl, o1, hx⟩; rw [hL.out] at o1; replace o1 := hide_ o1.ints; replace f3 := hide_ (f3.out.ext hx); replace f6 := hide_ (f6.out.ext hx); replace hX := hide_ (hX.trans hx); clear hx)
    | ((with_reducible refine at_bi ?_); refine i_len _ rfl rfl (v := v1) rfl o1.out ?_)
    | fail) <;> (try simp only [Act.put, List.setIfInBounds_toArray, List.set_cons_zero, List.set_cons_succ]))
  have hX1 := hX
  clear hX
  go_loopw [26] (fun i wr => ∃ k : Nat, i = .int .i64 k ∧ k ≤ L.length ∧ Ext W1 wr) (fun i _ => L.length - (RowKit.intOf i).toNat)
  case atStart => exact ⟨0, rfl, Nat.zero_le _, Ext.refl _⟩
  case round =>
    obtain ⟨k, rfl, hk, hY⟩ := hrel
    by_cases hge : L.length ≤ k
    rotate_left
    · have hlt : k < L.length := by omega
      have t2 : decide (k < L.length) = true := by simpa using hlt
      obtain ⟨m, hm0⟩ : ∃ m, L[k] = m := ⟨_, rfl⟩
      have hm := hide_ hm0
      have hmL : m ∈ L := hm0 ▸ List.getElem_mem hlt
      have hmd := hide_ (hname.out m hmL)
      have hk4 : k ≤ 4096 := by have := hL4.out; omega
      have hlt' := hide_ hlt
      cases c1 : decide (slot ≤ wrap64 (m.tdiv 65536))
      · clear hge hm0 hmL
        go_wp2_with ((first
          | ((with_reducible refine at_idx ?_); refine i_idx _ _ k rfl rfl (v := v1) rfl (o1.out.ext hY) rfl hlt'.out ?_; intro ad had; rw [hm.out] at had)
          | ((with_reducible refine at_field ?_); (try refine w_yes _ _ _ rfl rfl rfl ?_); refine w_fieldN (i := 3) (off := 4) (by kernel_rfl) (.tmp 3) _ rfl rfl rfl ?_)
          | ((with_reducible refine at_load ?_); refine w_fload _ rfl rfl rfl (f3.out.ext hY) rfl (agg_of (by kernel_rfl)) ?_)
          | fail) <;> (try simp only [Act.put, List.setIfInBounds_toArray, List.set_cons_zero, List.set_cons_succ]))
        go_roundw
        case rel => exact ⟨k + 1, by go_num, hlt'.out, hY⟩
        case measure => have := hlt'.out; simp [RowKit.intOf]; omega
      · have hno := hlate.out m hmL (by rw [← hmd.out]; simpa using c1)
        obtain rfl := hno
        obtain rfl := hnot.out rfl
        clear hge hm0 hmL
        go_wp2_with ((first
          | ((with_reducible refine at_idx ?_); refine i_idx _ _ k rfl rfl (v := v1) rfl (o1.out.ext hY) rfl hlt'.out ?_; intro ad had; rw [hm.out] at had)
          | ((with_reducible refine at_field ?_); (try refine w_yes _ _ _ rfl rfl rfl ?_); refine w_fieldN (i := 3) (off := 4) (by kernel_rfl) (.tmp 3) _ rfl rfl rfl ?_)
          | ((with_reducible refine at_load ?_); refine w_fload _ rfl rfl rfl (f3.out.ext hY) rfl (agg_of (by kernel_rfl)) ?_)
          | ((with_reducible refine at_sbuild ?_); refine w_sbuild Try.stBlk [.int .i64 0, .int .i64 0, .int .i64 0, .int .i64 0, .slice none 0 0] rfl rfl rfl (by intro p hp; simp at hp) ?_)
          | ((with_reducible refine at_store ?_); refine w_astore Try.stBlk (.tmp 6) _ (us := bRow BlkD.zero (.slice none 0 0)) rfl rfl rfl rfl rfl (f6.out.ext hY) rfl rfl (blk_one rfl) ?_; intro w3 hm3 f9; have fz : Fs w3 g6 (bRow BlkD.zero (.slice none 0 0)) := f9; have hXz := hm3.after (hX1.out.trans hY) (fun i hi => by subst hi; exact hg6.out); clear hm3 f9)
          | fail) <;> (try simp only [Act.put, List.setIfInBounds_toArray, List.set_cons_zero, List.set_cons_succ]))
        exact bodyPost_ret (ret_two Try.stBlk rfl rfl rfl fz rfl) rfl (Keep.intro ⟨_, rfl, OwnT.nil _ _, hXz⟩)
    obtain rfl : k = L.length := by omega
    have t2 : decide (L.length < L.length) = false := by simp
    cases qw
    · obtain rfl := hlose.out rfl
      obtain rfl := hnot.out rfl
      clear hge hk
      go_wp2_with ((first
        | (go_at_call 46; refine (refWins_any (s := slot) (n := me) hD.out (hd.out.ext (hX1.out.trans hY))).mono ?_; rintro e w5 ⟨rfl, hx⟩; rw [hq.out]; replace hY := hY.trans hx; clear hx)
        | ((with_reducible refine at_field ?_); (try refine w_yes _ _ _ rfl rfl rfl ?_); refine w_fieldN (i := 1) (off := 2) (by kernel_rfl) (.tmp 3) _ rfl rfl rfl ?_)
        | ((with_reducible refine at_field ?_); (try refine w_yes _ _ _ rfl rfl rfl ?_); refine w_fieldN (i := 3) (off := 4) (by kernel_rfl) (.tmp 3) _ rfl rfl rfl ?_)
        | ((with_reducible refine at_load ?_); refine w_fload _ rfl rfl rfl (f3.out.ext hY) rfl (agg_of (by kernel_rfl)) ?_)
        | ((with_reducible refine at_sbuild ?_); refine w_sbuild Try.stBlk [.int .i64 0, .int .i64 0, .int .i64 0, .int .i64 0, .slice none 0 0] rfl rfl rfl (by intro p hp; simp at hp) ?_)
        | ((with_reducible refine at_store ?_); refine w_astore Try.stBlk (.tmp 6) _ (us := bRow BlkD.zero (.slice none 0 0)) rfl rfl rfl rfl rfl (f6.out.ext hY) rfl rfl (blk_one rfl) ?_; intro w3 hm3 f9; have fz : Fs w3 g6 (bRow BlkD.zero (.slice none 0 0)) := f9; have hXz := hm3.after (hX1.out.trans hY) (fun i hi => by subst hi; exact hg6.out); clear hm3 f9)
        | fail) <;> (try simp only [Act.put, List.setIfInBounds_toArray, List.set_cons_zero, List.set_cons_succ]))
      exact bodyPost_ret (ret_two Try.stBlk rfl rfl rfl fz rfl) rfl (Keep.intro ⟨_, rfl, OwnT.nil _ _, hXz⟩)
    have hokB := hyes.out rfl
    clear hge hk
    go_wp2_with ((first
      | (go_at_call 46; refine (refWins_any (s := slot) (n := me) hD.out (hd.out.ext (hX1.out.trans hY))).mono ?_; rintro e w5 ⟨rfl, hx⟩; rw [hq.out]; replace hY := hY.trans hx; clear hx)
      | ((with_reducible refine at_field ?_); (try refine w_yes _ _ _ rfl rfl rfl ?_); refine w_fieldN (i := 1) (off := 2) (by kernel_rfl) (.tmp 3) _ rfl rfl rfl ?_)
      | ((with_reducible refine at_field ?_); (try refine w_yes _ _ _ rfl rfl rfl ?_); refine w_fieldN (i := 3) (off := 4) (by kernel_rfl) (.tmp 3) _ rfl rfl rfl ?_)
      | ((with_reducible refine at_load ?_); refine w_fload _ rfl rfl rfl (f3.out.ext hY) rfl (agg_of (by kernel_rfl)) ?_)
      | ((with_reducible refine at_lit ?_); refine w_nnew Try.elTxN [] rfl rfl rfl (by simp) rfl (by omega) ?_; intro v11 w3 C hC1 hC2 hx3 hn0; have ho := OwnT.of (lo := W1.heap.size) (l := []) hn0 (by simp) (fun k h => Nat.le_trans hY.size (Nat.le_trans hC1 (And.left h))); replace hY := hY.trans hx3; clear hn0 hx3 hC1 hC2)
      | ((with_reducible refine at_bi ?_); refine w_rlen Try.elTx _ rfl rfl rfl (ht.out.ext TxR.stays (hX1.out.trans hY)) ?_)
      | fail) <;> (try simp only [Act.put, List.setIfInBounds_toArray, List.set_cons_zero, List.set_cons_succ]))
    go_loopw [11, 48] (fun u11 i wr => ∃ k : Nat, i = .int .i64 k ∧ k ≤ txs.length ∧ OwnT W1.heap.size wr u11 (unu U (txs.take k)) ∧ Ext W1 wr) (fun _ i _ => txs.length - (RowKit.intOf i).toNat)
    case atStart => exact ⟨0, rfl, Nat.zero_le _, ho, hY⟩
    case round =>
      clear hY ho
      obtain ⟨k, rfl, hk, ho, hY⟩ := hrel
      by_cases hge : txs.length ≤ k
      · obtain rfl : k = txs.length := by omega
        have t3 : decide (txs.length < txs.length) = false := by simp
        rw [List.take_length] at ho
        obtain ⟨Z, hZ0⟩ : ∃ Z, unu U txs = Z := ⟨_, rfl⟩
        rw [hZ0] at ho
        have hsl := hide_ (show B.slot = slot ∧ B.miner = me ∧ B.var = 0 ∧ B.parent = T ∧ B.txs = Z from by rw [hBe.out, hZ0]; exact ⟨rfl, rfl, rfl, rfl, rfl⟩)
        have hrow := hide_ (fun (z : Value) => (show bRow B z = [.int .i64 slot, .int .i64 me, .int .i64 0, .int .i64 T, z] from by rw [bRow, hsl.out.1, hsl.out.2.1, hsl.out.2.2.1, hsl.out.2.2.2.1]))
        have hTb := hide_ (show I64 B.parent from by rw [hsl.out.2.2.2.1]; exact hTI.out)
        cases ok
        · obtain rfl := hnot.out rfl
          have hdec := hide_ hokB.symm
          clear hge hk hZ0 hokB
          go_wp2_with ((first
            | (go_at_call 47; refine (refBRight_any (b := B) (u := u11) (by rw [hsl.out.2.2.2.2]; exact ho.recs) hTb.out).mono ?_; rintro e w5 ⟨rfl, hx⟩; rw [hdec.out]; replace hY := hY.trans hx; clear hx f17)
            | ((with_reducible refine at_field ?_); (try refine w_yes _ _ _ rfl rfl rfl ?_); refine w_fieldN (i := 3) (off := 4) (by kernel_rfl) (.tmp 3) _ rfl rfl rfl ?_)
            | ((with_reducible refine at_load ?_); refine w_aload Try.stBlk (.tmp 17) rfl rfl rfl f17 rfl ?_)
            | ((with_reducible refine at_load ?_); refine w_fload _ rfl rfl rfl (f3.out.ext hY) rfl (agg_of (by kernel_rfl)) ?_)
            | ((with_reducible refine at_sbuild ?_); refine w_sbuild Try.stBlk [.int .i64 slot, .int .i64 me, .int .i64 0, .int .i64 T, u11] rfl rfl rfl (by intro p hp; simp at hp; rcases hp with rfl | rfl | rfl | rfl; exact ⟨by decide, rfl⟩; exact ⟨by decide, rfl⟩; exact ⟨by decide, rfl⟩; exact ⟨by decide, oneCell_cells ho.recs.one'⟩) ?_)
            | ((with_reducible refine at_sbuild ?_); refine w_sbuild Try.stBlk [.int .i64 0, .int .i64 0, .int .i64 0, .int .i64 0, .slice none 0 0] rfl rfl rfl (by intro p hp; simp at hp) ?_)
            | ((with_reducible refine at_alloc ?_); refine w_alloc Try.stBlk rfl rfl ?_; intro g17 w4 hg17 hx2 f17)
            | ((with_reducible refine at_store ?_); refine w_astore Try.stBlk (.tmp 17) _ (us := bRow B u11) rfl rfl rfl rfl (by rw [hrow.out]; rfl) f17 rfl rfl (blk_one ho.recs.one') ?_; intro w6 hm3 f9; replace f17 : Fs w6 g17 (bRow B u11) := f9; replace hx2 := hm3.after hx2 (fun i hi => by subst hi; exact hg17); replace ho := ho.ext hx2; replace hY := hY.trans hx2; clear hm3 f9 hx2 hg17)
            | ((with_reducible refine at_store ?_); refine w_astore Try.stBlk (.tmp 6) _ (us := bRow BlkD.zero (.slice none 0 0)) rfl rfl rfl rfl rfl (f6.out.ext hY) rfl rfl (blk_one rfl) ?_; intro w3 hm3 f9; have fz : Fs w3 g6 (bRow BlkD.zero (.slice none 0 0)) := f9; have hXz := hm3.after (hX1.out.trans hY) (fun i hi => by subst hi; exact hg6.out); clear hm3 f9)
            | fail) <;> (try simp only [Act.put, List.setIfInBounds_toArray, List.set_cons_zero, List.set_cons_succ]))
          exact bodyPost_ret (ret_two Try.stBlk rfl rfl rfl fz rfl) rfl (Keep.intro ⟨_, rfl, OwnT.nil _ _, hXz⟩)
        · obtain rfl := hyes2.out rfl
          have hdec := hide_ hokB.symm
          clear hge hk hZ0 hokB
          go_wp2_with ((first
            | (go_at_call 47; refine (refBRight_any (b := b) (u := u11) (by rw [hsl.out.2.2.2.2]; exact ho.recs) hTb.out).mono ?_; rintro e w5 ⟨rfl, hx⟩; rw [hdec.out]; replace f17 := f17.ext hx; replace ho := ho.ext hx; replace hY := hY.trans hx; clear hx)
            | ((with_reducible refine at_field ?_); (try refine w_yes _ _ _ rfl rfl rfl ?_); refine w_fieldN (i := 3) (off := 4) (by kernel_rfl) (.tmp 3) _ rfl rfl rfl ?_)
            | ((with_reducible refine at_load ?_); refine w_aload Try.stBlk (.tmp 17) rfl rfl rfl f17 rfl ?_)
            | ((with_reducible refine at_load ?_); refine w_fload _ rfl rfl rfl (f3.out.ext hY) rfl (agg_of (by kernel_rfl)) ?_)
            | ((with_reducible refine at_sbuild ?_); refine w_sbuild Try.stBlk [.int .i64 slot, .int .i64 me, .int .i64 0, .int .i64 T, u11] rfl rfl rfl (by intro p hp; simp at hp; rcases hp with rfl | rfl | rfl | rfl; exact ⟨by decide, rfl⟩; exact ⟨by decide, rfl⟩; exact ⟨by decide, rfl⟩; exact ⟨by decide, oneCell_cells ho.recs.one'⟩) ?_)
            | ((with_reducible refine at_alloc ?_); refine w_alloc Try.stBlk rfl rfl ?_; intro g17 w4 hg17 hx2 f17)
            | ((with_reducible refine at_store ?_); refine w_astore Try.stBlk (.tmp 17) _ (us := bRow b u11) rfl rfl rfl rfl (by rw [hrow.out]; rfl) f17 rfl rfl (blk_one ho.recs.one') ?_; intro w6 hm3 f9; replace f17 : Fs w6 g17 (bRow b u11) := f9; replace hx2 := hm3.after hx2 (fun i hi => by subst hi; exact hg17); replace ho := ho.ext hx2; replace hY := hY.trans hx2; clear hm3 f9 hx2 hg17)
            | ((with_reducible refine at_store ?_); refine w_astore Try.stBlk (.tmp 6) _ (us := bRow b u11) rfl rfl rfl rfl rfl (f6.out.ext hY) rfl rfl (blk_one ho.recs.one') ?_; intro w7 hm3 f9; replace ho := ho.mod hm3 (ho.ne_fs (f6.out.ext hY)); have fz : Fs w7 g6 (bRow b u11) := f9; have hXz := hm3.after (hX1.out.trans hY) (fun i hi => by subst hi; exact hg6.out); clear hm3 f9)
            | fail) <;> (try simp only [Act.put, List.setIfInBounds_toArray, List.set_cons_zero, List.set_cons_succ]))
          exact bodyPost_ret (ret_two Try.stBlk rfl rfl rfl fz rfl) rfl (Keep.intro ⟨u11, rfl, by rw [hsl.out.2.2.2.2]; exact ho.mono hX1.out.size, hXz⟩)
      have hlt : k < txs.length := by omega
      have t3 : decide (k < txs.length) = true := by simpa using hlt
      obtain ⟨t, ht1⟩ : ∃ t, txs[k]? = some t := ⟨_, List.getElem?_eq_getElem hlt⟩
      have htk := hide_ ht1
      have htr := hide_ (hraws.out t (List.mem_of_getElem? ht1))
      have hlt' := hide_ hlt
      obtain ⟨A, hA0⟩ : ∃ A, unu U (txs.take k) = A := ⟨_, rfl⟩
      have hAl := unu_len U (txs.take k)
      have hs1 := hide_ (fun (h : t.id ∈ U) => (show unu U (txs.take (k + 1)) = A from hA0 ▸ unu_snoc_no ht1 h))
      have hs2 := hide_ (fun (h : A.length = 3) => (show unu U (txs.take (k + 1)) = A from hA0 ▸ unu_stop (hA0 ▸ h) (k + 1) (by omega)))
      have hs3 := hide_ (fun (h : t.id ∉ U) (h3 : A.length ≠ 3) => (show unu U (txs.take (k + 1)) = A ++ [t] from hA0 ▸ unu_snoc_yes ht1 h (hA0 ▸ h3)))
      obtain ⟨al, hal0⟩ : ∃ al : Nat, A.length = al := ⟨_, rfl⟩
      have hal := hide_ hal0
      rw [hA0, hal0] at hAl
      rw [hA0] at ho
      clear hge hA0 hal0 ht1
      go_wp2_with ((first
        | ((with_reducible refine at_idx ?_); refine w_tidx Try.elTx _ _ k rfl rfl rfl rfl ht.out (hX1.out.trans hY) htk.out ?_; intro pa hrow; replace hrow := hide_ hrow)
        | ((with_reducible refine at_load ?_); refine w_pload Try.stTx _ rfl rfl rfl hrow.out rfl ?_)
        | ((with_reducible refine at_alloc ?_); refine w_alloc Try.stTx rfl rfl ?_; intro g13 w12 hg12 hx2 f2)
        | ((with_reducible refine at_store ?_); refine w_astore Try.stTx _ _ (us := [.int .i64 t.id, .int .i64 t.fee]) rfl rfl rfl rfl rfl f2 rfl rfl (TxD.one t) ?_; intro w13 hm3 f13; replace hx2 := hm3.after hx2 (fun i hi => by subst hi; exact hg12); replace ho := ho.ext hx2; replace hY := hY.trans hx2; clear hm3 f2 hx2 hrow hg12)
        | ((with_reducible refine at_load ?_); refine w_loadN Try.stDocC (.tmp 3) (cRow vk vw dv deep slot) rfl rfl rfl (f3.out.ext hY) rfl self_at ?_)
        | (go_at_call 27; refine (refCTxs_any (n := T) hU.out (hK.out.ext BlkR.stays (hX1.out.trans hY))).mono ?_; rintro e W2 ⟨v54, rfl, o54, hx⟩; rw [hUU.out] at o54; replace o54 := hide_ o54.ints; replace f13 := f13.ext hx; replace ho := ho.ext hx; replace hY := hY.trans hx; clear hx)
        | ((with_reducible refine at_bi ?_); refine i_len _ rfl rfl (v := v54) rfl o54.out ?_)
        | fail) <;> (try simp only [Act.put, List.setIfInBounds_toArray, List.set_cons_zero, List.set_cons_succ]))
      go_loopw [14, 56] (fun u14 i wy => ∃ z : Nat, i = .int .i64 z ∧ z ≤ U.length ∧ u14 = .bool (decide (t.id ∈ U.take z)) ∧ Ext W2 wy) (fun _ i _ => U.length - (RowKit.intOf i).toNat)
      case atStart => exact ⟨0, rfl, Nat.zero_le _, by simp, Ext.refl _⟩
      case round =>
        obtain ⟨z, rfl, hz, rfl, hZ⟩ := hrel
        by_cases hge : U.length ≤ z
        · obtain rfl : z = U.length := by omega
          have t6 : decide (U.length < U.length) = false := by simp
          rw [List.take_length]
          cases hin : decide (t.id ∈ U)
          · have hnin : t.id ∉ U := by simpa using hin
            cases hr3 : decide ((al : Int) < 3)
            · have hst := hide_ (hs2.out (by rw [hal.out]; have : ¬ (al : Int) < 3 := by simpa using hr3
                                             omega))
              clear hge hin hnin
              go_wp2_with ((first
                | ((with_reducible refine at_bi ?_); (try refine w_yes _ _ _ rfl rfl rfl ?_); refine w_rlen Try.elTx _ rfl rfl rfl (ho.recs.ext TxR.stays hZ) ?_; rw [hal.out])
                | fail) <;> (try simp only [Act.put, List.setIfInBounds_toArray, List.set_cons_zero, List.set_cons_succ]))
              go_roundw
              case rel => exact ⟨k + 1, by go_num, hlt'.out, by rw [hst.out]; exact ho.ext hZ, hY.trans hZ⟩
              case measure => have := hlt'.out; simp [RowKit.intOf]; omega
            · have h3 : al ≠ 3 := by have : (al : Int) < 3 := by simpa using hr3
                                     omega
              have hst := hide_ (hs3.out hnin (by rw [hal.out]; exact h3))
              have hbig := hide_ (show ((A.map TxD.row).length + [t.row].length) * 16 ≤ 140737488355328 from by rw [List.length_map, hal.out]; simp; omega)
              replace ho := ho.ext hZ
              replace f13 := f13.ext hZ
              replace hY := hY.trans hZ
              clear hge hin hnin h3 hZ
              go_wp2_with ((first
                | ((with_reducible refine at_bi ?_); (try refine w_yes _ _ _ rfl rfl rfl ?_); refine w_rlen Try.elTx _ rfl rfl rfl ho.recs ?_; rw [hal.out])
                | ((with_reducible refine at_load ?_); refine w_aload Try.stTx (.tmp 13) rfl rfl rfl f13 rfl ?_)
                | ((with_reducible refine at_lit ?_); refine w_nnew Try.elTxN [t.row] rfl rfl rfl (by simp [TxD.row]) rfl (by omega) ?_; intro vl w6 C hC1 hC2 hx6 hn6; have hl6 := hn6.slS; replace ho := ho.ext hx6; replace hY := hY.trans hx6; clear f13 hn6 hC1 hC2 hx6)
                | ((with_reducible refine at_bi ?_); refine w_napp Try.elTxN _ _ rfl rfl rfl rfl ho.own hl6 (by simp) (by intro y hy; simp at hy; subst hy; exact t.one) hbig.out ?_; intro v9 w7 hm7 hn7; have ho2 := ho.app hY.size htr.out hn7; replace hY := hm7.after hY ho.new; replace ho := ho2; clear ho2 hm7 hn7 hl6)
                | fail) <;> (try simp only [Act.put, List.setIfInBounds_toArray, List.set_cons_zero, List.set_cons_succ]))
              go_roundw
              case rel => exact ⟨k + 1, by go_num, hlt'.out, by rw [hst.out]; exact ho, hY⟩
              case measure => have := hlt'.out; simp [RowKit.intOf]; omega
          · have hst := hide_ (hs1.out (by simpa using hin))
            clear hge hin
            go_wp2
            go_roundw
            case rel => exact ⟨k + 1, by go_num, hlt'.out, by rw [hst.out]; exact ho.ext hZ, hY.trans hZ⟩
            case measure => have := hlt'.out; simp [RowKit.intOf]; omega
        have hzl : z < U.length := by omega
        have t6 : decide (z < U.length) = true := by simpa using hzl
        obtain ⟨x, hx0⟩ : ∃ x, U[z] = x := ⟨_, rfl⟩
        have hx := hide_ hx0
        have hms := hide_ (hUm.out z x t.id (by rw [List.getElem?_eq_getElem hzl, hx0]))
        have hz4 : z ≤ 12288 := by have := hUl.out; omega
        have hzl' := hide_ hzl
        obtain ⟨bi, hbi0⟩ : ∃ bi, decide (t.id ∈ U.take z) = bi := ⟨_, rfl⟩
        rw [hbi0] at hms ⊢
        clear hge hx0 hbi0
        cases bi
        · cases hxt : (x == t.id)
          · have hms2 := hide_ (show decide (t.id ∈ U.take (z + 1)) = false from by rw [hms.out, hxt]; rfl)
            go_wp2_with ((first
              | ((with_reducible refine at_idx ?_); refine i_idx _ _ z rfl rfl rfl (o54.out.ext hZ) rfl hzl'.out ?_; intro ad had; rw [hx.out] at had)
              | ((with_reducible refine at_field ?_); (try refine w_yes _ _ _ rfl rfl rfl ?_); refine w_field Try.stTx _ _ _ rfl rfl rfl (by omega) ?_)
              | ((with_reducible refine at_load ?_); (try refine w_yes _ _ _ rfl rfl rfl ?_); refine w_fload _ rfl rfl rfl (f13.ext hZ) rfl (agg_of (by kernel_rfl)) ?_)
              | fail) <;> (try simp only [Act.put, List.setIfInBounds_toArray, List.set_cons_zero, List.set_cons_succ]))
            go_roundw
            case rel => exact ⟨z + 1, by go_num, hzl'.out, by rw [hms2.out], hZ⟩
            case measure => have := hzl'.out; simp [RowKit.intOf]; omega
          · have hms2 := hide_ (show decide (t.id ∈ U.take (z + 1)) = true from by rw [hms.out, hxt]; rfl)
            go_wp2_with ((first
              | ((with_reducible refine at_idx ?_); refine i_idx _ _ z rfl rfl rfl (o54.out.ext hZ) rfl hzl'.out ?_; intro ad had; rw [hx.out] at had)
              | ((with_reducible refine at_field ?_); (try refine w_yes _ _ _ rfl rfl rfl ?_); refine w_field Try.stTx _ _ _ rfl rfl rfl (by omega) ?_)
              | ((with_reducible refine at_load ?_); (try refine w_yes _ _ _ rfl rfl rfl ?_); refine w_fload _ rfl rfl rfl (f13.ext hZ) rfl (agg_of (by kernel_rfl)) ?_)
              | fail) <;> (try simp only [Act.put, List.setIfInBounds_toArray, List.set_cons_zero, List.set_cons_succ]))
            go_roundw
            case rel => exact ⟨z + 1, by go_num, hzl'.out, by rw [hms2.out], hZ⟩
            case measure => have := hzl'.out; simp [RowKit.intOf]; omega
        · have hms2 := hide_ (show decide (t.id ∈ U.take (z + 1)) = true from by rw [hms.out]; rfl)
          go_wp2_with ((first
            | ((with_reducible refine at_idx ?_); refine i_idx _ _ z rfl rfl rfl (o54.out.ext hZ) rfl hzl'.out ?_; intro ad had; rw [hx.out] at had)
            | fail) <;> (try simp only [Act.put, List.setIfInBounds_toArray, List.set_cons_zero, List.set_cons_succ]))
          go_roundw
          case rel => exact ⟨z + 1, by go_num, hzl'.out, by rw [hms2.out], hZ⟩
          case measure => have := hzl'.out; simp [RowKit.intOf]; omega
end Go.Proofs.Ytpnbkgeglgiihaa
