/- The statement TreeStands: each that is known stands on one that is, one lower; a way goes so from the first to it; none is higher than the tip. No condition. -/
import Derived.Test.YtabelhoncmnpgaaTLm
namespace Go.Proofs.Ytabelhoncmnpgaa
set_option maxRecDepth 100000
open Go.RowKit Go.ChangeShapes Go.WideShapes Go.ChangeAt

set_option maxRecDepth 100000 in
set_option maxHeartbeats 6400000 in
theorem treeStands_law (v0 : Value) (l : List BlkD) (W : World) (hl00 : Recs 5 BlkL W v0 l) : Calls Try.prog 7 #[v0] W fun e w' => e = .returned (.bool true) ∧ Ext W w' := by
  refine calls_keep ?_
  have hl0 := hide_ hl00
  have hmax := hl00.len_le
  unfold maxLen at hmax
  have hraws := hide_ (fun k d (h : l[k]? = some d) => blks_at hl00 h)
  clear hl00
  by_cases hbig : 100 < l.length
  · have t1 : decide ((100 : Int) < (l.length : Int)) = true := decide_eq_true (by omega)
    go_enter Try.func7, Try.ntmps7
    go_wp2_with ((first
      | (go_at_call 11; refine (treeAlive_any _).mono ?_; rintro e w2 ⟨rfl, hX⟩)
      | ((with_reducible refine at_bi ?_); refine w_rlen Try.enBlk.elS _ rfl rfl rfl (hl0.out.ext BlkL.stays hX) ?_)
      | fail) <;> (try simp only [Act.put, List.setIfInBounds_toArray, List.set_cons_zero, List.set_cons_succ]))
    go_ret
    exact Keep.intro ⟨rfl, hX⟩
  have t1 : decide ((100 : Int) < (l.length : Int)) = false := decide_eq_false (by omega)
  go_enter Try.func7, Try.ntmps7
  go_wp2_with ((first
    | (go_at_call 10; refine (New_any (w := _)).mono ?_; rintro e w1 ⟨p, G, rfl, hT, hx, hG⟩; have hO : Out W G w1 := ⟨hX.trans hx, fun k hk => Nat.le_trans hX.size (hG k hk)⟩; clear hX hx hG)
    | (go_at_call 11; refine (treeAlive_any _).mono ?_; rintro e w2 ⟨rfl, hX⟩)
    | ((with_reducible refine at_bi ?_); have _t := hX; refine w_rlen Try.enBlk.elS _ rfl rfl rfl (hl0.out.ext BlkL.stays hX) ?_)
    | ((with_reducible refine at_bi ?_); refine w_rlen Try.enBlk.elS _ rfl rfl rfl (hl0.out.ext BlkL.stays hO.ext) ?_)
    | fail) <;> (try simp only [Act.put, List.setIfInBounds_toArray, List.set_cons_zero, List.set_cons_succ]))
  go_loopw [20] (fun i wr => ∃ (k : Nat) (G : Nat → Prop), i = .int .i64 k ∧ k ≤ l.length ∧ TrW G wr p (st l k).known (st l k).wait ∧ Out W G wr) (fun i _ => l.length - (RowKit.intOf i).toNat)
  case atStart => exact ⟨0, G, rfl, Nat.zero_le _, by rw [st_zero]; exact hT, hO⟩
  case round =>
    clear hT hO
    obtain ⟨k, G, rfl, hk, hT, hO⟩ := hrel
    by_cases hge : l.length ≤ k
    rotate_left
    · have hlt : k < l.length := by omega
      have t2 : decide (k < l.length) = true := by simpa using hlt
      obtain ⟨d, hd0⟩ : ∃ d, l[k]? = some d := ⟨_, List.getElem?_eq_getElem hlt⟩
      have hraw := hide_ (hraws.out k d hd0)
      have hst := hide_ (st_succ hd0)
      have hV16 := hide_ (st_good l k).few
      have hlt' := hide_ hlt
      have hd := hide_ hd0
      clear hge hlt hd0
      go_wp2_with ((first
        | (go_at_call 17; refine (BCopy_any (b := d) hu hraw.out.2).mono ?_; rintro e w5 ⟨u', rfl, o9, hx⟩; replace o9 := o9.recs; replace hT := hT.ext hx; replace hO := hO.extend hx; clear hx f2 hu)
        | (go_at_call 18; refine (Add_any (b := d) (u := u') hT hV16.out o9 hraw.out.1).mono ?_; rintro e w6 ⟨v', G', rfl, _, hT', hU⟩; rw [← hst.out] at hT'; replace hT := hT'; replace hO := hO.upd hU; clear hT' hU o9)
        | (refine w_lidx Try.enBlk.elS _ _ k rfl rfl rfl rfl hl0.out hO.ext hd.out ?_; intro pa u hrow hu; have hone := blk_one (a := d.slot) (b := d.miner) (c := d.var) (d := d.parent) hu.one'; replace hrow := hide_ hrow)
        | ((with_reducible refine at_load ?_); refine w_pload Try.stBlk _ rfl rfl rfl hrow.out rfl ?_)
        | ((with_reducible refine at_alloc ?_); refine w_alloc Try.stBlk rfl rfl ?_; intro g2 w2 hg2 hx2 f2)
        | ((with_reducible refine at_store ?_); refine w_astore Try.stBlk _ _ (us := bRow d u) rfl rfl rfl rfl rfl f2 rfl rfl hone ?_; intro w3 hm3 f3; replace f2 : Fs w3 g2 (bRow d u) := f3; replace hx2 := hm3.after hx2 (fun i hi => by subst hi; exact hg2); replace hT := hT.ext hx2; replace hO := hO.extend hx2; replace hu := hu.ext TxR.stays hx2; clear hm3 f3 hx2 hrow)
        | ((with_reducible refine at_load ?_); refine w_aload Try.stBlk _ rfl rfl rfl f2 rfl ?_)
        | fail) <;> (try simp only [Act.put, List.setIfInBounds_toArray, List.set_cons_zero, List.set_cons_succ]))
      go_roundw
      case rel => exact ⟨k + 1, G', by go_num, hlt'.out, hT, hO⟩
      case measure => have := hlt'.out; simp [RowKit.intOf]; omega
    obtain rfl : k = l.length := by omega
    have t2 : decide (l.length < l.length) = false := by simp
    have hgood := st_good l l.length
    obtain ⟨S, hS⟩ : ∃ S, st l l.length = S := ⟨_, rfl⟩
    rw [hS] at hT hgood
    have uq := hgood.uq
    have hstood := hgood.stood
    obtain ⟨K, hK⟩ : ∃ K, S.known = K := ⟨_, rfl⟩
    obtain ⟨V, hV⟩ : ∃ V, S.wait = V := ⟨_, rfl⟩
    have hnl : (TrS.names K).length ≤ 400 := by rw [← hK, hgood.names_len]; exact hgood.room
    have hVl : V.length ≤ 16 := by rw [← hV]; exact hgood.few
    rw [hK] at hT uq hstood
    rw [hV] at hT
    obtain ⟨N, hN⟩ : ∃ N, TrS.names K = N := ⟨_, rfl⟩
    rw [hN] at hnl
    have hmem := hide_ (fun n (h : n ∈ N) => TrS.mem_names.1 (hN ▸ h))
    have hN' := hide_ hN
    replace uq := hide_ uq
    replace hstood := hide_ hstood
    clear hge hS hgood hK hV hN hk
    go_wp2_with ((first
      | (go_at_call 13; refine (Names_any hT).mono ?_; rintro e W1 ⟨v1, rfl, o1, hx⟩; rw [hN'.out] at o1; replace o1 := hide_ o1.ints; replace hT := hide_ (hT.ext hx); replace hO := hide_ (hO.extend hx).ext; clear hx)
      | ((with_reducible refine at_bi ?_); refine i_len _ rfl rfl (v := v1) rfl o1.out ?_)
      | fail) <;> (try simp only [Act.put, List.setIfInBounds_toArray, List.set_cons_zero, List.set_cons_succ]))
    go_loopw [32] (fun i wr => ∃ k : Nat, i = .int .i64 k ∧ k ≤ N.length ∧ Ext W1 wr) (fun i _ => N.length - (RowKit.intOf i).toNat)
    case atStart => exact ⟨0, rfl, Nat.zero_le _, Ext.refl _⟩
    case round =>
      obtain ⟨k, rfl, hk, hX⟩ := hrel
      by_cases hge : N.length ≤ k
      · obtain rfl : k = N.length := by omega
        have t3 : decide (N.length < N.length) = false := by simp
        have t4 : decide ((V.length : Int) ≤ 16) = true := decide_eq_true (by omega)
        clear hge
        go_wp2_with ((first
          | (go_at_call 14; refine (Waiting_any (hT.out.ext hX)).mono ?_; rintro e w5 ⟨v2, rfl, o2, hx⟩; obtain ⟨NV, hNV⟩ : ∃ NV, V.map BlkD.name = NV := ⟨_, rfl⟩; have hNl : (NV.length : Int) = V.length := (by rw [← hNV]; simp); have t5 : decide ((NV.length : Int) ≤ 16) = true := (by rw [hNl]; exact t4); rw [hNV] at o2; clear hNV hNl; replace o2 := o2.ints; replace hX := hX.trans hx; clear hx)
          | ((with_reducible refine at_bi ?_); refine i_len _ rfl rfl (v := v2) rfl o2 ?_)
          | fail) <;> (try simp only [Act.put, List.setIfInBounds_toArray, List.set_cons_zero, List.set_cons_succ]))
        go_ret
        exact Keep.intro ⟨rfl, hO.out.trans hX⟩
      have hlt : k < N.length := by omega
      have t3 : decide (k < N.length) = true := by simpa using hlt
      obtain ⟨n, hn0⟩ : ∃ n, N[k] = n := ⟨_, rfl⟩
      have hn1 := hide_ hn0
      obtain ⟨b, hb, hbn⟩ := hmem.out n (hn0 ▸ List.getElem_mem hlt)
      have hlt' := hide_ hlt
      have hnI : I64 n := hbn ▸ (uq.out.right b hb).i64
      have hpI : I64 b.parent := by
        by_cases h0 : b.parent = 0
        · rw [h0]; exact ⟨by omega, by omega⟩
        · obtain ⟨c, hc, hcn⟩ := TrS.has_iff.1 (parent_has hstood.out hb h0)
          rw [← hcn]; exact (uq.out.right c hc).i64
      have hTI : I64 (TrS.tip K) := by
        rcases uq.out.tip.mem with ⟨h, _⟩ | ⟨c, hc, hcn⟩
        · rw [h]; exact ⟨by omega, by omega⟩
        · rw [← hcn]; exact (uq.out.right c hc).i64
      obtain ⟨T, hTe⟩ : ∃ T, TrS.tip K = T := ⟨_, rfl⟩
      obtain ⟨ht, hhe⟩ : ∃ ht, TrS.height K T = ht := ⟨_, rfl⟩
      obtain ⟨L, hLe⟩ : ∃ L, TrS.path K n = L := ⟨_, rfl⟩
      have hh0 : TrS.height K n = (L.length : Int) := by rw [← hLe, ← hbn]; exact high_len uq.out hb
      have hp0 : TrS.height K b.parent = (L.length : Int) - 1 := by rw [← hh0, ← hbn]; exact uq.out.height hstood.out hb
      have htop := uq.out.tip.top b hb
      rw [hTe, hhe, hbn, hh0] at htop
      have hLpos : 1 ≤ L.length := by
        have := uq.out.height_pos hb
        rw [hbn, hh0] at this; omega
      have hL4 : L.length ≤ 4096 := by rw [← hLe]; exact path_len K n
      have hend : L[L.length - 1]? = some n := by
        obtain ⟨r, hr⟩ := uq.out.path_end hb hbn
        rw [hLe] at hr; rw [hr]; simp
      obtain ⟨x0, hx0⟩ : ∃ x0, L[0]? = some x0 := ⟨_, List.getElem?_eq_getElem (by omega)⟩
      have hget := hide_ (show getOr K n = b from hbn ▸ getOr_mem uq.out hb)
      have hhas := hide_ (show TrS.has K n = true from hbn ▸ has_of hb)
      have b1 := back_one uq.out hstood.out hb
      rw [hbn, hLe] at b1
      have hG := hide_ (fun w' (h : Ext W1 w') => (Get_any (hT.out.ext h) hnI).mono fun e w'' (q : ∃ u, e = .returned (.tuple #[.agg (bRow (getOr K n) u).toArray, .bool (TrS.has K n)]) ∧ OwnT w'.heap.size w'' u (getOr K n).txs ∧ Ext w' w'') => (show ∃ u, e = .returned (.tuple #[.agg (bRow b u).toArray, .bool true]) ∧ Recs 2 TxR w'' u b.txs ∧ Ext w' w'' from by
        obtain ⟨u, h1, h2, h3⟩ := q
        rw [hget.out] at h1 h2; rw [hhas.out] at h1
        exact ⟨u, h1, h2.recs, h3⟩))
      have hH1 := hide_ (fun w' (h : Ext W1 w') => hh0 ▸ Height_any (hT.out.ext h) hnI)
      have hH2 := hide_ (fun w' (h : Ext W1 w') => hp0 ▸ Height_any (hT.out.ext h) hpI)
      have hTp := hide_ (fun w' (h : Ext W1 w') => hTe ▸ Tip_any (hT.out.ext h))
      have hH3 := hide_ (fun w' (h : Ext W1 w') => hhe ▸ Height_any (hT.out.ext h) (hTe ▸ hTI))
      have hPa := hide_ (fun w' (h : Ext W1 w') => hLe ▸ Path_any (hT.out.ext h) hnI)
      have hB1 := hide_ (fun w' (h : Ext W1 w') => b1 ▸ hLe ▸ Back_any (steps := 1) (hT.out.ext h) hnI ⟨by omega, by omega⟩)
      have hB2 := hide_ (fun w' (h : Ext W1 w') => back_all L ▸ hLe ▸ Back_any (steps := (L.length : Int)) (hT.out.ext h) hnI ⟨by omega, by omega⟩)
      have hB3 := hide_ (fun w' (h : Ext W1 w') => back_first hx0 ▸ hLe ▸ Back_any (steps := (L.length : Int) - 1) (hT.out.ext h) hnI ⟨by omega, by omega⟩)
      have hlast := hide_ (show ∃ h : L.length - 1 < L.length, L[L.length - 1] = n from List.getElem?_eq_some_iff.1 hend)
      have hfst := hide_ (show ∃ h : 0 < L.length, L[0] = x0 from List.getElem?_eq_some_iff.1 hx0)
      have hpI' := hide_ hpI
      have hbn' := hide_ hbn
      have t5 : decide (ht < (L.length : Int)) = false := decide_eq_false (by omega)
      have hHs0 := (fun (h0 : b.parent ≠ 0) => hide_ (fun w' (h : Ext W1 w') => parent_has hstood.out hb h0 ▸ Has_any (n := b.parent) (hT.out.ext h) hpI))
      have t6 : ((L.length : Int) == ht) = true → decide (n < T) = false := fun hc => decide_eq_false (by have : (L.length : Int) = ht := by simpa using hc
                                                                                                          omega)
      clear hmem hn0 hb hbn hnI hpI hTI hTe hhe hLe hh0 hp0 htop hend hx0 hget hhas b1 hge
      cases c2 : ((L.length : Int) == ht)
      · clear t6
        cases c1 : (b.parent != 0)
        rotate_left
        · have hHs := hHs0 (by simpa using c1)
          clear hHs0
          go_wp2_with ((first
          | (go_at_call 24; (with_reducible refine (hG.out _ hX).mono ?_); rintro e w5 ⟨u8, rfl, r8, hx⟩; have hone8 := blk_one (a := b.slot) (b := b.miner) (c := b.var) (d := b.parent) r8.one'; replace hX := hX.trans hx; clear hx)
          | (go_at_call 16; (with_reducible refine (hH1.out _ hX).mono ?_); rintro e w5 ⟨rfl, hx⟩; replace f8 := f8.ext hx; replace r8 := r8.ext TxR.stays hx; replace hX := hX.trans hx; clear hx)
          | (go_at_call 16; (with_reducible refine (hH2.out _ hX).mono ?_); rintro e w5 ⟨rfl, hx⟩; replace f8 := f8.ext hx; replace r8 := r8.ext TxR.stays hx; replace hX := hX.trans hx; clear hx)
          | (go_at_call 16; (with_reducible refine (hH3.out _ hX).mono ?_); rintro e w5 ⟨rfl, hx⟩; replace f8 := f8.ext hx; replace r8 := r8.ext TxR.stays hx; replace hX := hX.trans hx; clear hx)
          | (go_at_call 12; (with_reducible refine (hTp.out _ hX).mono ?_); rintro e w5 ⟨rfl, hx⟩; replace f8 := f8.ext hx; replace r8 := r8.ext TxR.stays hx; replace hX := hX.trans hx; clear hx)
          | (go_at_call 32; (with_reducible refine (hPa.out _ hX).mono ?_); rintro e w5 ⟨v11, rfl, o11, hx⟩; replace o11 := o11.ints; replace f8 := f8.ext hx; replace r8 := r8.ext TxR.stays hx; replace hX := hX.trans hx; clear hx)
          | (go_at_call 38; refine (BName_any (b := b) r8 hpI'.out).mono ?_; rintro e w5 ⟨rfl, hx⟩; rw [hbn'.out]; replace f8 := f8.ext hx; replace r8 := r8.ext TxR.stays hx; replace hX := hX.trans hx; clear hx)
          | (go_at_call 30; (with_reducible refine (hHs.out _ hX).mono ?_); rintro e w5 ⟨rfl, hx⟩; replace f8 := f8.ext hx; replace r8 := r8.ext TxR.stays hx; replace hX := hX.trans hx; clear hx)
          | ((with_reducible refine at_idx ?_); refine i_idx _ _ k rfl rfl rfl (o1.out.ext hX) rfl hlt'.out ?_; intro ad had; rw [hn1.out] at had)
          | ((with_reducible refine at_alloc ?_); refine w_alloc Try.stBlk rfl rfl ?_; intro g8 w2 hg2 hx2 f8)
          | ((with_reducible refine at_store ?_); refine w_astore Try.stBlk _ _ (us := bRow b u8) rfl rfl rfl rfl rfl f8 rfl rfl hone8 ?_; intro w3 hm3 f3; replace f8 : Fs w3 g8 (bRow b u8) := f3; replace hx2 := hm3.after hx2 (fun i hi => by subst hi; exact hg2); replace r8 := r8.ext TxR.stays hx2; replace hX := hX.trans hx2; clear hm3 f3 hx2)
          | ((with_reducible refine at_field ?_); (try refine w_yes _ _ _ rfl rfl rfl ?_); refine w_field Try.stBlk _ _ _ rfl rfl rfl (by omega) ?_)
          | ((with_reducible refine at_load ?_); (try refine w_yes _ _ _ rfl rfl rfl ?_); refine w_aload Try.stBlk _ rfl rfl rfl f8 rfl ?_)
          | ((with_reducible refine at_load ?_); (try refine w_yes _ _ _ rfl rfl rfl ?_); refine w_fload _ rfl rfl rfl f8 rfl (agg_of (by kernel_rfl)) ?_)
          | fail) <;> (try simp only [Act.put, List.setIfInBounds_toArray, List.set_cons_zero, List.set_cons_succ]))
          refine wp_region_phx (by kernel_rfl) ?_; intro wd hxd; have F8 := f8.ext hxd; have j11 := o11.ext hxd
          refine Ph.rest 0 39 (by kernel_rfl) ?_
          refine LinL.step (s := (.val (v11))) [(11, none)] rfl (by kernel_rfl) (op_out 11 (v11) rfl (.inl rfl) rfl) ?_
          refine LinL.step (s := (.val (.int .i64 (L.length : Nat)))) [(99, some 0)] rfl (by kernel_rfl) (op_runs rfl fun σ w' hx hg => ⟨_, runs_leni (ρ := σ.eval) (w := w') (.tmp 99) rfl hg.1 (j11.ext hx), rfl⟩) ?_
          refine LinL.step (s := (.val (.int .i64 (L.length : Nat)))) [(10, none)] rfl (by kernel_rfl) (op_out 10 (.int .i64 (L.length : Nat)) rfl (.inl rfl) rfl) ?_
          refine LinL.step (s := (.val (.bool false))) [(100, some 1), (101, some 0)] rfl (by kernel_rfl) (op_runs rfl fun σ w' hx hg => ⟨(.bool false), by have h100 : σ.tmps.getD 100 undef = .int .i64 (L.length : Nat) := hg.1; have h101 : σ.tmps.getD 101 undef = .int .i64 (L.length : Nat) := hg.2.1; unfold Runs execOp; simp [Act.eval, h100, h101, go_sem], rfl⟩) ?_
          refine LinL.step (s := (.val (.bool false))) [(102, some 0)] rfl (by kernel_rfl) (op_copy 102 0 (.val (.bool false)) rfl (.inl rfl) rfl) ?_
          refine LinL.step (s := (.val (v11))) [(11, none), (103, some 0)] rfl (by kernel_rfl) (op_yes (reads := [(11, none)]) 4 103 0 false rfl rfl rfl (op_out 11 (v11) rfl (.inl rfl) rfl)) ?_
          refine LinL.step (s := (.val (.int .i64 (L.length : Nat)))) [(10, none), (103, some 1)] rfl (by kernel_rfl) (op_yes (reads := [(10, none)]) 4 103 1 false rfl rfl rfl (op_out 10 (.int .i64 (L.length : Nat)) rfl (.inl rfl) rfl)) ?_
          refine LinL.step (s := (.val (.int .i64 ((L.length - 1 : Nat) : Int)))) [(105, some 0), (103, some 2)] rfl (by kernel_rfl) (op_yes (reads := [(105, some 0)]) 4 103 2 false rfl rfl rfl (op_runs rfl fun σ w' hx hg => ⟨_, runs_sub (ρ := σ.eval) (w := w') (.tmp 105) (.const (.int .i64 1)) (((L.length - 1 : Nat) : Int)) (by omega) (by omega) rfl hg.1 rfl, rfl⟩)) ?_
          refine LinL.step (s := (Sp.ptr (.int .i64 (n)))) [(104, some 2), (106, some 0), (103, some 3)] rfl (by kernel_rfl) (op_yes (reads := [(104, some 2), (106, some 0)]) 4 103 3 false rfl rfl rfl (op_runs rfl fun σ w' hx hg => rptri (ρ := σ.eval) (w := w') (.tmp 104) (.tmp 106) rfl hg.1 (j11.ext hx) ((L.length - 1)) hg.2.1 hlast.out.choose hlast.out.choose_spec)) ?_
          refine LinL.step (s := (.val (.int .i64 (n : Int)))) [(107, some 0), (103, some 4)] rfl (by kernel_rfl) (op_yes (reads := [(107, some 0)]) 4 103 4 false rfl rfl rfl (op_runs rfl fun σ w' hx hg => ⟨_, runs_load (ρ := σ.eval) (w := w') (.tmp 107) rfl Try.underlying3 rfl hg.1, rfl⟩)) ?_
          refine LinL.step (s := (.val (.int .i64 n))) [(7, none), (103, some 5)] rfl (by kernel_rfl) (op_yes (reads := [(7, none)]) 4 103 5 false rfl rfl rfl (op_out 7 (.int .i64 n) rfl (.inl rfl) rfl)) ?_
          refine LinL.step (s := (.val (.bool false))) [(108, some 1), (109, some 0), (103, some 6)] rfl (by kernel_rfl) (op_yes (reads := [(108, some 1), (109, some 0)]) 4 103 6 false rfl rfl rfl (op_runs rfl fun σ w' hx hg => ⟨(.bool false), by have h108 : σ.tmps.getD 108 undef = .int .i64 (n : Int) := hg.1; have h109 : σ.tmps.getD 109 undef = .int .i64 n := hg.2.1; unfold Runs execOp; simp [Act.eval, h108, h109, go_sem], rfl⟩)) ?_
          refine LinL.step (s := (.val (.bool false))) [(103, some 7), (110, some 0)] rfl (by kernel_rfl) (op_runs rfl fun σ w' hx hg => ⟨_, runs_pick_f (ρ := σ.eval) (w := w') (.tmp 103) (.const (.bool true)) (.tmp 110) rfl hg.1 hg.2.1, rfl⟩) ?_
          refine LinL.step (s := (.val (.bool false))) [(111, some 0)] rfl (by kernel_rfl) (op_copy 111 0 (.val (.bool false)) rfl (.inl rfl) rfl) ?_
          refine LinL.step (s := (.val (.pointer (some ⟨p, 0, none⟩)))) [(3, none), (112, some 0)] rfl (by kernel_rfl) (op_yes (reads := [(3, none)]) 13 112 0 false rfl rfl rfl (op_out 3 (.pointer (some ⟨p, 0, none⟩)) rfl (.inl rfl) rfl)) ?_
          refine LinL.step (s := (.val (.int .i64 n))) [(7, none), (112, some 1)] rfl (by kernel_rfl) (op_yes (reads := [(7, none)]) 13 112 1 false rfl rfl rfl (op_out 7 (.int .i64 n) rfl (.inl rfl) rfl)) ?_
          refine LinL.step (s := (.val (.int .i64 b.parent))) [(113, some 1), (114, some 0), (112, some 2)] rfl (by kernel_rfl) (op_yes (reads := [(113, some 1), (114, some 0)]) 13 112 2 false rfl rfl rfl (op_calls 34 #[(.tmp 113), (.tmp 114), (.const (.int .i64 1))] #[22, 3, 3] (fun σ => #[.pointer (some ⟨p, 0, none⟩), .int .i64 n, .int .i64 1]) rfl rfl (fun _ _ => rfl) fun σ w' hx hg => ⟨by have h113 : σ.tmps.getD 113 undef = .pointer (some ⟨p, 0, none⟩) := hg.1; have h114 : σ.tmps.getD 114 undef = .int .i64 n := hg.2.1; simp only [List.map_toArray, List.map_cons, List.map_nil, Act.eval, h113, h114], retH (hB1.out w' (hX.trans (hxd.trans hx)))⟩)) ?_
          refine LinL.step (s := (.val (.pointer (some ⟨g8, 3, none⟩)))) [(8, none), (112, some 3)] rfl (by kernel_rfl) (op_yes (reads := [(8, none)]) 13 112 3 false rfl rfl rfl (op_runs rfl fun σ w' hx hg => ⟨_, runs_field (ρ := σ.eval) (w := w') Try.stBlk (.tmp 8) g8 3 rfl hg.1 (by omega), rfl⟩)) ?_
          refine LinL.step (s := (.val (.int .i64 b.parent))) [(116, some 0), (112, some 4)] rfl (by kernel_rfl) (op_yes (reads := [(116, some 0)]) 13 112 4 false rfl rfl rfl (op_runs rfl fun σ w' hx hg => ⟨_, runs_fload (ρ := σ.eval) (w := w') (.tmp 116) rfl hg.1 (agg_of (by kernel_rfl) _) (F8.ext hx) rfl, rfl⟩)) ?_
          refine LinL.step (s := (.val (.bool false))) [(115, some 2), (117, some 0), (112, some 5)] rfl (by kernel_rfl) (op_yes (reads := [(115, some 2), (117, some 0)]) 13 112 5 false rfl rfl rfl (op_runs rfl fun σ w' hx hg => ⟨(.bool false), by have h115 : σ.tmps.getD 115 undef = .int .i64 b.parent := hg.1; have h117 : σ.tmps.getD 117 undef = .int .i64 b.parent := hg.2.1; unfold Runs execOp; simp [Act.eval, h115, h117, go_sem], rfl⟩)) ?_
          refine LinL.step (s := (.val (.bool false))) [(112, some 6), (118, some 0)] rfl (by kernel_rfl) (op_runs rfl fun σ w' hx hg => ⟨_, runs_pick_f (ρ := σ.eval) (w := w') (.tmp 112) (.const (.bool true)) (.tmp 118) rfl hg.1 hg.2.1, rfl⟩) ?_
          refine LinL.step (s := (.val (.bool false))) [(119, some 0)] rfl (by kernel_rfl) (op_copy 119 0 (.val (.bool false)) rfl (.inl rfl) rfl) ?_
          refine LinL.step (s := (.val (.pointer (some ⟨p, 0, none⟩)))) [(3, none), (120, some 0)] rfl (by kernel_rfl) (op_yes (reads := [(3, none)]) 21 120 0 false rfl rfl rfl (op_out 3 (.pointer (some ⟨p, 0, none⟩)) rfl (.inl rfl) rfl)) ?_
          refine LinL.step (s := (.val (.int .i64 n))) [(7, none), (120, some 1)] rfl (by kernel_rfl) (op_yes (reads := [(7, none)]) 21 120 1 false rfl rfl rfl (op_out 7 (.int .i64 n) rfl (.inl rfl) rfl)) ?_
          refine LinL.step (s := (.val (.int .i64 (L.length : Nat)))) [(10, none), (120, some 2)] rfl (by kernel_rfl) (op_yes (reads := [(10, none)]) 21 120 2 false rfl rfl rfl (op_out 10 (.int .i64 (L.length : Nat)) rfl (.inl rfl) rfl)) ?_
          refine LinL.step (s := (.val (.int .i64 0))) [(121, some 2), (122, some 1), (123, some 0), (120, some 3)] rfl (by kernel_rfl) (op_yes (reads := [(121, some 2), (122, some 1), (123, some 0)]) 21 120 3 false rfl rfl rfl (op_calls 34 #[(.tmp 121), (.tmp 122), (.tmp 123)] #[22, 3, 3] (fun σ => #[.pointer (some ⟨p, 0, none⟩), .int .i64 n, .int .i64 (L.length : Nat)]) rfl rfl (fun _ _ => rfl) fun σ w' hx hg => ⟨by have h121 : σ.tmps.getD 121 undef = .pointer (some ⟨p, 0, none⟩) := hg.1; have h122 : σ.tmps.getD 122 undef = .int .i64 n := hg.2.1; have h123 : σ.tmps.getD 123 undef = .int .i64 (L.length : Nat) := hg.2.2.1; simp only [List.map_toArray, List.map_cons, List.map_nil, Act.eval, h121, h122, h123], retH (hB2.out w' (hX.trans (hxd.trans hx)))⟩)) ?_
          refine LinL.step (s := (.val (.bool false))) [(124, some 0), (120, some 4)] rfl (by kernel_rfl) (op_yes (reads := [(124, some 0)]) 21 120 4 false rfl rfl rfl (op_runs rfl fun σ w' hx hg => ⟨(.bool false), by have h124 : σ.tmps.getD 124 undef = .int .i64 0 := hg.1; unfold Runs execOp; simp [Act.eval, h124, go_sem], rfl⟩)) ?_
          refine LinL.step (s := (.val (.bool false))) [(120, some 5), (125, some 0)] rfl (by kernel_rfl) (op_runs rfl fun σ w' hx hg => ⟨_, runs_pick_f (ρ := σ.eval) (w := w') (.tmp 120) (.const (.bool true)) (.tmp 125) rfl hg.1 hg.2.1, rfl⟩) ?_
          refine LinL.step (s := (.val (.bool false))) [(126, some 0)] rfl (by kernel_rfl) (op_copy 126 0 (.val (.bool false)) rfl (.inl rfl) rfl) ?_
          refine LinL.step (s := (.val (.pointer (some ⟨p, 0, none⟩)))) [(3, none), (127, some 0)] rfl (by kernel_rfl) (op_yes (reads := [(3, none)]) 28 127 0 false rfl rfl rfl (op_out 3 (.pointer (some ⟨p, 0, none⟩)) rfl (.inl rfl) rfl)) ?_
          refine LinL.step (s := (.val (.int .i64 n))) [(7, none), (127, some 1)] rfl (by kernel_rfl) (op_yes (reads := [(7, none)]) 28 127 1 false rfl rfl rfl (op_out 7 (.int .i64 n) rfl (.inl rfl) rfl)) ?_
          refine LinL.step (s := (.val (.int .i64 (L.length : Nat)))) [(10, none), (127, some 2)] rfl (by kernel_rfl) (op_yes (reads := [(10, none)]) 28 127 2 false rfl rfl rfl (op_out 10 (.int .i64 (L.length : Nat)) rfl (.inl rfl) rfl)) ?_
          refine LinL.step (s := (.val (.int .i64 ((L.length : Int) - 1)))) [(130, some 0), (127, some 3)] rfl (by kernel_rfl) (op_yes (reads := [(130, some 0)]) 28 127 3 false rfl rfl rfl (op_runs rfl fun σ w' hx hg => ⟨_, runs_sub (ρ := σ.eval) (w := w') (.tmp 130) (.const (.int .i64 1)) (((L.length : Int) - 1)) (by omega) (by omega) rfl hg.1 rfl, rfl⟩)) ?_
          refine LinL.step (s := (.val (.int .i64 x0))) [(128, some 3), (129, some 2), (131, some 0), (127, some 4)] rfl (by kernel_rfl) (op_yes (reads := [(128, some 3), (129, some 2), (131, some 0)]) 28 127 4 false rfl rfl rfl (op_calls 34 #[(.tmp 128), (.tmp 129), (.tmp 131)] #[22, 3, 3] (fun σ => #[.pointer (some ⟨p, 0, none⟩), .int .i64 n, .int .i64 ((L.length : Int) - 1)]) rfl rfl (fun _ _ => rfl) fun σ w' hx hg => ⟨by have h128 : σ.tmps.getD 128 undef = .pointer (some ⟨p, 0, none⟩) := hg.1; have h129 : σ.tmps.getD 129 undef = .int .i64 n := hg.2.1; have h131 : σ.tmps.getD 131 undef = .int .i64 ((L.length : Int) - 1) := hg.2.2.1; simp only [List.map_toArray, List.map_cons, List.map_nil, Act.eval, h128, h129, h131], retH (hB3.out w' (hX.trans (hxd.trans hx)))⟩)) ?_
          refine LinL.step (s := (.val (v11))) [(11, none), (127, some 5)] rfl (by kernel_rfl) (op_yes (reads := [(11, none)]) 28 127 5 false rfl rfl rfl (op_out 11 (v11) rfl (.inl rfl) rfl)) ?_
          refine LinL.step (s := (Sp.ptr (.int .i64 (x0)))) [(133, some 0), (127, some 6)] rfl (by kernel_rfl) (op_yes (reads := [(133, some 0)]) 28 127 6 false rfl rfl rfl (op_runs rfl fun σ w' hx hg => rptri (ρ := σ.eval) (w := w') (.tmp 133) (.const (.int .i64 0)) rfl hg.1 (j11.ext hx) 0 rfl hfst.out.choose hfst.out.choose_spec)) ?_
          refine LinL.step (s := (.val (.int .i64 (x0 : Int)))) [(134, some 0), (127, some 7)] rfl (by kernel_rfl) (op_yes (reads := [(134, some 0)]) 28 127 7 false rfl rfl rfl (op_runs rfl fun σ w' hx hg => ⟨_, runs_load (ρ := σ.eval) (w := w') (.tmp 134) rfl Try.underlying3 rfl hg.1, rfl⟩)) ?_
          refine LinL.step (s := (.val (.bool false))) [(132, some 3), (135, some 0), (127, some 8)] rfl (by kernel_rfl) (op_yes (reads := [(132, some 3), (135, some 0)]) 28 127 8 false rfl rfl rfl (op_runs rfl fun σ w' hx hg => ⟨(.bool false), by have h132 : σ.tmps.getD 132 undef = .int .i64 x0 := hg.1; have h135 : σ.tmps.getD 135 undef = .int .i64 (x0 : Int) := hg.2.1; unfold Runs execOp; simp [Act.eval, h132, h135, go_sem], rfl⟩)) ?_
          refine LinL.step (s := (.val (.bool false))) [(127, some 9), (136, some 0)] rfl (by kernel_rfl) (op_runs rfl fun σ w' hx hg => ⟨_, runs_pick_f (ρ := σ.eval) (w := w') (.tmp 127) (.const (.bool true)) (.tmp 136) rfl hg.1 hg.2.1, rfl⟩) ?_
          intro wN hxN
          simp only [Fin', Sp.ptr, List.reverse_cons, List.reverse_nil, List.nil_append, List.cons_append, List.drop_zero, List.take_succ_cons, List.take_zero]
          intro q107 hq107 q134 hq134
          simp only [Act.put, List.setIfInBounds_toArray, List.set_cons_zero, List.set_cons_succ]
          replace hX := hX.trans (hxd.trans hxN)
          clear hxd hxN
          go_wp2
          go_roundw
          case rel => exact ⟨k + 1, by go_num, hlt'.out, hX⟩
          case measure => have := hlt'.out; simp [RowKit.intOf]; omega
        · clear hHs0
          go_wp2_with ((first
          | (go_at_call 24; (with_reducible refine (hG.out _ hX).mono ?_); rintro e w5 ⟨u8, rfl, r8, hx⟩; have hone8 := blk_one (a := b.slot) (b := b.miner) (c := b.var) (d := b.parent) r8.one'; replace hX := hX.trans hx; clear hx)
          | (go_at_call 16; (with_reducible refine (hH1.out _ hX).mono ?_); rintro e w5 ⟨rfl, hx⟩; replace f8 := f8.ext hx; replace r8 := r8.ext TxR.stays hx; replace hX := hX.trans hx; clear hx)
          | (go_at_call 16; (with_reducible refine (hH2.out _ hX).mono ?_); rintro e w5 ⟨rfl, hx⟩; replace f8 := f8.ext hx; replace r8 := r8.ext TxR.stays hx; replace hX := hX.trans hx; clear hx)
          | (go_at_call 16; (with_reducible refine (hH3.out _ hX).mono ?_); rintro e w5 ⟨rfl, hx⟩; replace f8 := f8.ext hx; replace r8 := r8.ext TxR.stays hx; replace hX := hX.trans hx; clear hx)
          | (go_at_call 12; (with_reducible refine (hTp.out _ hX).mono ?_); rintro e w5 ⟨rfl, hx⟩; replace f8 := f8.ext hx; replace r8 := r8.ext TxR.stays hx; replace hX := hX.trans hx; clear hx)
          | (go_at_call 32; (with_reducible refine (hPa.out _ hX).mono ?_); rintro e w5 ⟨v11, rfl, o11, hx⟩; replace o11 := o11.ints; replace f8 := f8.ext hx; replace r8 := r8.ext TxR.stays hx; replace hX := hX.trans hx; clear hx)
          | (go_at_call 38; refine (BName_any (b := b) r8 hpI'.out).mono ?_; rintro e w5 ⟨rfl, hx⟩; rw [hbn'.out]; replace f8 := f8.ext hx; replace r8 := r8.ext TxR.stays hx; replace hX := hX.trans hx; clear hx)
          | ((with_reducible refine at_idx ?_); refine i_idx _ _ k rfl rfl rfl (o1.out.ext hX) rfl hlt'.out ?_; intro ad had; rw [hn1.out] at had)
          | ((with_reducible refine at_alloc ?_); refine w_alloc Try.stBlk rfl rfl ?_; intro g8 w2 hg2 hx2 f8)
          | ((with_reducible refine at_store ?_); refine w_astore Try.stBlk _ _ (us := bRow b u8) rfl rfl rfl rfl rfl f8 rfl rfl hone8 ?_; intro w3 hm3 f3; replace f8 : Fs w3 g8 (bRow b u8) := f3; replace hx2 := hm3.after hx2 (fun i hi => by subst hi; exact hg2); replace r8 := r8.ext TxR.stays hx2; replace hX := hX.trans hx2; clear hm3 f3 hx2)
          | ((with_reducible refine at_field ?_); (try refine w_yes _ _ _ rfl rfl rfl ?_); refine w_field Try.stBlk _ _ _ rfl rfl rfl (by omega) ?_)
          | ((with_reducible refine at_load ?_); (try refine w_yes _ _ _ rfl rfl rfl ?_); refine w_aload Try.stBlk _ rfl rfl rfl f8 rfl ?_)
          | ((with_reducible refine at_load ?_); (try refine w_yes _ _ _ rfl rfl rfl ?_); refine w_fload _ rfl rfl rfl f8 rfl (agg_of (by kernel_rfl)) ?_)
          | fail) <;> (try simp only [Act.put, List.setIfInBounds_toArray, List.set_cons_zero, List.set_cons_succ]))
          refine wp_region_phx (by kernel_rfl) ?_; intro wd hxd; have F8 := f8.ext hxd; have j11 := o11.ext hxd
          refine Ph.rest 0 39 (by kernel_rfl) ?_
          refine LinL.step (s := (.val (v11))) [(11, none)] rfl (by kernel_rfl) (op_out 11 (v11) rfl (.inl rfl) rfl) ?_
          refine LinL.step (s := (.val (.int .i64 (L.length : Nat)))) [(99, some 0)] rfl (by kernel_rfl) (op_runs rfl fun σ w' hx hg => ⟨_, runs_leni (ρ := σ.eval) (w := w') (.tmp 99) rfl hg.1 (j11.ext hx), rfl⟩) ?_
          refine LinL.step (s := (.val (.int .i64 (L.length : Nat)))) [(10, none)] rfl (by kernel_rfl) (op_out 10 (.int .i64 (L.length : Nat)) rfl (.inl rfl) rfl) ?_
          refine LinL.step (s := (.val (.bool false))) [(100, some 1), (101, some 0)] rfl (by kernel_rfl) (op_runs rfl fun σ w' hx hg => ⟨(.bool false), by have h100 : σ.tmps.getD 100 undef = .int .i64 (L.length : Nat) := hg.1; have h101 : σ.tmps.getD 101 undef = .int .i64 (L.length : Nat) := hg.2.1; unfold Runs execOp; simp [Act.eval, h100, h101, go_sem], rfl⟩) ?_
          refine LinL.step (s := (.val (.bool false))) [(102, some 0)] rfl (by kernel_rfl) (op_copy 102 0 (.val (.bool false)) rfl (.inl rfl) rfl) ?_
          refine LinL.step (s := (.val (v11))) [(11, none), (103, some 0)] rfl (by kernel_rfl) (op_yes (reads := [(11, none)]) 4 103 0 false rfl rfl rfl (op_out 11 (v11) rfl (.inl rfl) rfl)) ?_
          refine LinL.step (s := (.val (.int .i64 (L.length : Nat)))) [(10, none), (103, some 1)] rfl (by kernel_rfl) (op_yes (reads := [(10, none)]) 4 103 1 false rfl rfl rfl (op_out 10 (.int .i64 (L.length : Nat)) rfl (.inl rfl) rfl)) ?_
          refine LinL.step (s := (.val (.int .i64 ((L.length - 1 : Nat) : Int)))) [(105, some 0), (103, some 2)] rfl (by kernel_rfl) (op_yes (reads := [(105, some 0)]) 4 103 2 false rfl rfl rfl (op_runs rfl fun σ w' hx hg => ⟨_, runs_sub (ρ := σ.eval) (w := w') (.tmp 105) (.const (.int .i64 1)) (((L.length - 1 : Nat) : Int)) (by omega) (by omega) rfl hg.1 rfl, rfl⟩)) ?_
          refine LinL.step (s := (Sp.ptr (.int .i64 (n)))) [(104, some 2), (106, some 0), (103, some 3)] rfl (by kernel_rfl) (op_yes (reads := [(104, some 2), (106, some 0)]) 4 103 3 false rfl rfl rfl (op_runs rfl fun σ w' hx hg => rptri (ρ := σ.eval) (w := w') (.tmp 104) (.tmp 106) rfl hg.1 (j11.ext hx) ((L.length - 1)) hg.2.1 hlast.out.choose hlast.out.choose_spec)) ?_
          refine LinL.step (s := (.val (.int .i64 (n : Int)))) [(107, some 0), (103, some 4)] rfl (by kernel_rfl) (op_yes (reads := [(107, some 0)]) 4 103 4 false rfl rfl rfl (op_runs rfl fun σ w' hx hg => ⟨_, runs_load (ρ := σ.eval) (w := w') (.tmp 107) rfl Try.underlying3 rfl hg.1, rfl⟩)) ?_
          refine LinL.step (s := (.val (.int .i64 n))) [(7, none), (103, some 5)] rfl (by kernel_rfl) (op_yes (reads := [(7, none)]) 4 103 5 false rfl rfl rfl (op_out 7 (.int .i64 n) rfl (.inl rfl) rfl)) ?_
          refine LinL.step (s := (.val (.bool false))) [(108, some 1), (109, some 0), (103, some 6)] rfl (by kernel_rfl) (op_yes (reads := [(108, some 1), (109, some 0)]) 4 103 6 false rfl rfl rfl (op_runs rfl fun σ w' hx hg => ⟨(.bool false), by have h108 : σ.tmps.getD 108 undef = .int .i64 (n : Int) := hg.1; have h109 : σ.tmps.getD 109 undef = .int .i64 n := hg.2.1; unfold Runs execOp; simp [Act.eval, h108, h109, go_sem], rfl⟩)) ?_
          refine LinL.step (s := (.val (.bool false))) [(103, some 7), (110, some 0)] rfl (by kernel_rfl) (op_runs rfl fun σ w' hx hg => ⟨_, runs_pick_f (ρ := σ.eval) (w := w') (.tmp 103) (.const (.bool true)) (.tmp 110) rfl hg.1 hg.2.1, rfl⟩) ?_
          refine LinL.step (s := (.val (.bool false))) [(111, some 0)] rfl (by kernel_rfl) (op_copy 111 0 (.val (.bool false)) rfl (.inl rfl) rfl) ?_
          refine LinL.step (s := (.val (.pointer (some ⟨p, 0, none⟩)))) [(3, none), (112, some 0)] rfl (by kernel_rfl) (op_yes (reads := [(3, none)]) 13 112 0 false rfl rfl rfl (op_out 3 (.pointer (some ⟨p, 0, none⟩)) rfl (.inl rfl) rfl)) ?_
          refine LinL.step (s := (.val (.int .i64 n))) [(7, none), (112, some 1)] rfl (by kernel_rfl) (op_yes (reads := [(7, none)]) 13 112 1 false rfl rfl rfl (op_out 7 (.int .i64 n) rfl (.inl rfl) rfl)) ?_
          refine LinL.step (s := (.val (.int .i64 b.parent))) [(113, some 1), (114, some 0), (112, some 2)] rfl (by kernel_rfl) (op_yes (reads := [(113, some 1), (114, some 0)]) 13 112 2 false rfl rfl rfl (op_calls 34 #[(.tmp 113), (.tmp 114), (.const (.int .i64 1))] #[22, 3, 3] (fun σ => #[.pointer (some ⟨p, 0, none⟩), .int .i64 n, .int .i64 1]) rfl rfl (fun _ _ => rfl) fun σ w' hx hg => ⟨by have h113 : σ.tmps.getD 113 undef = .pointer (some ⟨p, 0, none⟩) := hg.1; have h114 : σ.tmps.getD 114 undef = .int .i64 n := hg.2.1; simp only [List.map_toArray, List.map_cons, List.map_nil, Act.eval, h113, h114], retH (hB1.out w' (hX.trans (hxd.trans hx)))⟩)) ?_
          refine LinL.step (s := (.val (.pointer (some ⟨g8, 3, none⟩)))) [(8, none), (112, some 3)] rfl (by kernel_rfl) (op_yes (reads := [(8, none)]) 13 112 3 false rfl rfl rfl (op_runs rfl fun σ w' hx hg => ⟨_, runs_field (ρ := σ.eval) (w := w') Try.stBlk (.tmp 8) g8 3 rfl hg.1 (by omega), rfl⟩)) ?_
          refine LinL.step (s := (.val (.int .i64 b.parent))) [(116, some 0), (112, some 4)] rfl (by kernel_rfl) (op_yes (reads := [(116, some 0)]) 13 112 4 false rfl rfl rfl (op_runs rfl fun σ w' hx hg => ⟨_, runs_fload (ρ := σ.eval) (w := w') (.tmp 116) rfl hg.1 (agg_of (by kernel_rfl) _) (F8.ext hx) rfl, rfl⟩)) ?_
          refine LinL.step (s := (.val (.bool false))) [(115, some 2), (117, some 0), (112, some 5)] rfl (by kernel_rfl) (op_yes (reads := [(115, some 2), (117, some 0)]) 13 112 5 false rfl rfl rfl (op_runs rfl fun σ w' hx hg => ⟨(.bool false), by have h115 : σ.tmps.getD 115 undef = .int .i64 b.parent := hg.1; have h117 : σ.tmps.getD 117 undef = .int .i64 b.parent := hg.2.1; unfold Runs execOp; simp [Act.eval, h115, h117, go_sem], rfl⟩)) ?_
          refine LinL.step (s := (.val (.bool false))) [(112, some 6), (118, some 0)] rfl (by kernel_rfl) (op_runs rfl fun σ w' hx hg => ⟨_, runs_pick_f (ρ := σ.eval) (w := w') (.tmp 112) (.const (.bool true)) (.tmp 118) rfl hg.1 hg.2.1, rfl⟩) ?_
          refine LinL.step (s := (.val (.bool false))) [(119, some 0)] rfl (by kernel_rfl) (op_copy 119 0 (.val (.bool false)) rfl (.inl rfl) rfl) ?_
          refine LinL.step (s := (.val (.pointer (some ⟨p, 0, none⟩)))) [(3, none), (120, some 0)] rfl (by kernel_rfl) (op_yes (reads := [(3, none)]) 21 120 0 false rfl rfl rfl (op_out 3 (.pointer (some ⟨p, 0, none⟩)) rfl (.inl rfl) rfl)) ?_
          refine LinL.step (s := (.val (.int .i64 n))) [(7, none), (120, some 1)] rfl (by kernel_rfl) (op_yes (reads := [(7, none)]) 21 120 1 false rfl rfl rfl (op_out 7 (.int .i64 n) rfl (.inl rfl) rfl)) ?_
          refine LinL.step (s := (.val (.int .i64 (L.length : Nat)))) [(10, none), (120, some 2)] rfl (by kernel_rfl) (op_yes (reads := [(10, none)]) 21 120 2 false rfl rfl rfl (op_out 10 (.int .i64 (L.length : Nat)) rfl (.inl rfl) rfl)) ?_
          refine LinL.step (s := (.val (.int .i64 0))) [(121, some 2), (122, some 1), (123, some 0), (120, some 3)] rfl (by kernel_rfl) (op_yes (reads := [(121, some 2), (122, some 1), (123, some 0)]) 21 120 3 false rfl rfl rfl (op_calls 34 #[(.tmp 121), (.tmp 122), (.tmp 123)] #[22, 3, 3] (fun σ => #[.pointer (some ⟨p, 0, none⟩), .int .i64 n, .int .i64 (L.length : Nat)]) rfl rfl (fun _ _ => rfl) fun σ w' hx hg => ⟨by have h121 : σ.tmps.getD 121 undef = .pointer (some ⟨p, 0, none⟩) := hg.1; have h122 : σ.tmps.getD 122 undef = .int .i64 n := hg.2.1; have h123 : σ.tmps.getD 123 undef = .int .i64 (L.length : Nat) := hg.2.2.1; simp only [List.map_toArray, List.map_cons, List.map_nil, Act.eval, h121, h122, h123], retH (hB2.out w' (hX.trans (hxd.trans hx)))⟩)) ?_
          refine LinL.step (s := (.val (.bool false))) [(124, some 0), (120, some 4)] rfl (by kernel_rfl) (op_yes (reads := [(124, some 0)]) 21 120 4 false rfl rfl rfl (op_runs rfl fun σ w' hx hg => ⟨(.bool false), by have h124 : σ.tmps.getD 124 undef = .int .i64 0 := hg.1; unfold Runs execOp; simp [Act.eval, h124, go_sem], rfl⟩)) ?_
          refine LinL.step (s := (.val (.bool false))) [(120, some 5), (125, some 0)] rfl (by kernel_rfl) (op_runs rfl fun σ w' hx hg => ⟨_, runs_pick_f (ρ := σ.eval) (w := w') (.tmp 120) (.const (.bool true)) (.tmp 125) rfl hg.1 hg.2.1, rfl⟩) ?_
          refine LinL.step (s := (.val (.bool false))) [(126, some 0)] rfl (by kernel_rfl) (op_copy 126 0 (.val (.bool false)) rfl (.inl rfl) rfl) ?_
          refine LinL.step (s := (.val (.pointer (some ⟨p, 0, none⟩)))) [(3, none), (127, some 0)] rfl (by kernel_rfl) (op_yes (reads := [(3, none)]) 28 127 0 false rfl rfl rfl (op_out 3 (.pointer (some ⟨p, 0, none⟩)) rfl (.inl rfl) rfl)) ?_
          refine LinL.step (s := (.val (.int .i64 n))) [(7, none), (127, some 1)] rfl (by kernel_rfl) (op_yes (reads := [(7, none)]) 28 127 1 false rfl rfl rfl (op_out 7 (.int .i64 n) rfl (.inl rfl) rfl)) ?_
          refine LinL.step (s := (.val (.int .i64 (L.length : Nat)))) [(10, none), (127, some 2)] rfl (by kernel_rfl) (op_yes (reads := [(10, none)]) 28 127 2 false rfl rfl rfl (op_out 10 (.int .i64 (L.length : Nat)) rfl (.inl rfl) rfl)) ?_
          refine LinL.step (s := (.val (.int .i64 ((L.length : Int) - 1)))) [(130, some 0), (127, some 3)] rfl (by kernel_rfl) (op_yes (reads := [(130, some 0)]) 28 127 3 false rfl rfl rfl (op_runs rfl fun σ w' hx hg => ⟨_, runs_sub (ρ := σ.eval) (w := w') (.tmp 130) (.const (.int .i64 1)) (((L.length : Int) - 1)) (by omega) (by omega) rfl hg.1 rfl, rfl⟩)) ?_
          refine LinL.step (s := (.val (.int .i64 x0))) [(128, some 3), (129, some 2), (131, some 0), (127, some 4)] rfl (by kernel_rfl) (op_yes (reads := [(128, some 3), (129, some 2), (131, some 0)]) 28 127 4 false rfl rfl rfl (op_calls 34 #[(.tmp 128), (.tmp 129), (.tmp 131)] #[22, 3, 3] (fun σ => #[.pointer (some ⟨p, 0, none⟩), .int .i64 n, .int .i64 ((L.length : Int) - 1)]) rfl rfl (fun _ _ => rfl) fun σ w' hx hg => ⟨by have h128 : σ.tmps.getD 128 undef = .pointer (some ⟨p, 0, none⟩) := hg.1; have h129 : σ.tmps.getD 129 undef = .int .i64 n := hg.2.1; have h131 : σ.tmps.getD 131 undef = .int .i64 ((L.length : Int) - 1) := hg.2.2.1; simp only [List.map_toArray, List.map_cons, List.map_nil, Act.eval, h128, h129, h131], retH (hB3.out w' (hX.trans (hxd.trans hx)))⟩)) ?_
          refine LinL.step (s := (.val (v11))) [(11, none), (127, some 5)] rfl (by kernel_rfl) (op_yes (reads := [(11, none)]) 28 127 5 false rfl rfl rfl (op_out 11 (v11) rfl (.inl rfl) rfl)) ?_
          refine LinL.step (s := (Sp.ptr (.int .i64 (x0)))) [(133, some 0), (127, some 6)] rfl (by kernel_rfl) (op_yes (reads := [(133, some 0)]) 28 127 6 false rfl rfl rfl (op_runs rfl fun σ w' hx hg => rptri (ρ := σ.eval) (w := w') (.tmp 133) (.const (.int .i64 0)) rfl hg.1 (j11.ext hx) 0 rfl hfst.out.choose hfst.out.choose_spec)) ?_
          refine LinL.step (s := (.val (.int .i64 (x0 : Int)))) [(134, some 0), (127, some 7)] rfl (by kernel_rfl) (op_yes (reads := [(134, some 0)]) 28 127 7 false rfl rfl rfl (op_runs rfl fun σ w' hx hg => ⟨_, runs_load (ρ := σ.eval) (w := w') (.tmp 134) rfl Try.underlying3 rfl hg.1, rfl⟩)) ?_
          refine LinL.step (s := (.val (.bool false))) [(132, some 3), (135, some 0), (127, some 8)] rfl (by kernel_rfl) (op_yes (reads := [(132, some 3), (135, some 0)]) 28 127 8 false rfl rfl rfl (op_runs rfl fun σ w' hx hg => ⟨(.bool false), by have h132 : σ.tmps.getD 132 undef = .int .i64 x0 := hg.1; have h135 : σ.tmps.getD 135 undef = .int .i64 (x0 : Int) := hg.2.1; unfold Runs execOp; simp [Act.eval, h132, h135, go_sem], rfl⟩)) ?_
          refine LinL.step (s := (.val (.bool false))) [(127, some 9), (136, some 0)] rfl (by kernel_rfl) (op_runs rfl fun σ w' hx hg => ⟨_, runs_pick_f (ρ := σ.eval) (w := w') (.tmp 127) (.const (.bool true)) (.tmp 136) rfl hg.1 hg.2.1, rfl⟩) ?_
          intro wN hxN
          simp only [Fin', Sp.ptr, List.reverse_cons, List.reverse_nil, List.nil_append, List.cons_append, List.drop_zero, List.take_succ_cons, List.take_zero]
          intro q107 hq107 q134 hq134
          simp only [Act.put, List.setIfInBounds_toArray, List.set_cons_zero, List.set_cons_succ]
          replace hX := hX.trans (hxd.trans hxN)
          clear hxd hxN
          go_wp2
          go_roundw
          case rel => exact ⟨k + 1, by go_num, hlt'.out, hX⟩
          case measure => have := hlt'.out; simp [RowKit.intOf]; omega
      · have t7 := t6 c2
        clear t6
        cases c1 : (b.parent != 0)
        rotate_left
        · have hHs := hHs0 (by simpa using c1)
          clear hHs0
          go_wp2_with ((first
          | (go_at_call 24; (with_reducible refine (hG.out _ hX).mono ?_); rintro e w5 ⟨u8, rfl, r8, hx⟩; have hone8 := blk_one (a := b.slot) (b := b.miner) (c := b.var) (d := b.parent) r8.one'; replace hX := hX.trans hx; clear hx)
          | (go_at_call 16; (with_reducible refine (hH1.out _ hX).mono ?_); rintro e w5 ⟨rfl, hx⟩; replace f8 := f8.ext hx; replace r8 := r8.ext TxR.stays hx; replace hX := hX.trans hx; clear hx)
          | (go_at_call 16; (with_reducible refine (hH2.out _ hX).mono ?_); rintro e w5 ⟨rfl, hx⟩; replace f8 := f8.ext hx; replace r8 := r8.ext TxR.stays hx; replace hX := hX.trans hx; clear hx)
          | (go_at_call 16; (with_reducible refine (hH3.out _ hX).mono ?_); rintro e w5 ⟨rfl, hx⟩; replace f8 := f8.ext hx; replace r8 := r8.ext TxR.stays hx; replace hX := hX.trans hx; clear hx)
          | (go_at_call 12; (with_reducible refine (hTp.out _ hX).mono ?_); rintro e w5 ⟨rfl, hx⟩; replace f8 := f8.ext hx; replace r8 := r8.ext TxR.stays hx; replace hX := hX.trans hx; clear hx)
          | (go_at_call 32; (with_reducible refine (hPa.out _ hX).mono ?_); rintro e w5 ⟨v11, rfl, o11, hx⟩; replace o11 := o11.ints; replace f8 := f8.ext hx; replace r8 := r8.ext TxR.stays hx; replace hX := hX.trans hx; clear hx)
          | (go_at_call 38; refine (BName_any (b := b) r8 hpI'.out).mono ?_; rintro e w5 ⟨rfl, hx⟩; rw [hbn'.out]; replace f8 := f8.ext hx; replace r8 := r8.ext TxR.stays hx; replace hX := hX.trans hx; clear hx)
          | (go_at_call 30; (with_reducible refine (hHs.out _ hX).mono ?_); rintro e w5 ⟨rfl, hx⟩; replace f8 := f8.ext hx; replace r8 := r8.ext TxR.stays hx; replace hX := hX.trans hx; clear hx)
          | ((with_reducible refine at_idx ?_); refine i_idx _ _ k rfl rfl rfl (o1.out.ext hX) rfl hlt'.out ?_; intro ad had; rw [hn1.out] at had)
          | ((with_reducible refine at_alloc ?_); refine w_alloc Try.stBlk rfl rfl ?_; intro g8 w2 hg2 hx2 f8)
          | ((with_reducible refine at_store ?_); refine w_astore Try.stBlk _ _ (us := bRow b u8) rfl rfl rfl rfl rfl f8 rfl rfl hone8 ?_; intro w3 hm3 f3; replace f8 : Fs w3 g8 (bRow b u8) := f3; replace hx2 := hm3.after hx2 (fun i hi => by subst hi; exact hg2); replace r8 := r8.ext TxR.stays hx2; replace hX := hX.trans hx2; clear hm3 f3 hx2)
          | ((with_reducible refine at_field ?_); (try refine w_yes _ _ _ rfl rfl rfl ?_); refine w_field Try.stBlk _ _ _ rfl rfl rfl (by omega) ?_)
          | ((with_reducible refine at_load ?_); (try refine w_yes _ _ _ rfl rfl rfl ?_); refine w_aload Try.stBlk _ rfl rfl rfl f8 rfl ?_)
          | ((with_reducible refine at_load ?_); (try refine w_yes _ _ _ rfl rfl rfl ?_); refine w_fload _ rfl rfl rfl f8 rfl (agg_of (by kernel_rfl)) ?_)
          | fail) <;> (try simp only [Act.put, List.setIfInBounds_toArray, List.set_cons_zero, List.set_cons_succ]))
          refine wp_region_phx (by kernel_rfl) ?_; intro wd hxd; have F8 := f8.ext hxd; have j11 := o11.ext hxd
          refine Ph.rest 0 39 (by kernel_rfl) ?_
          refine LinL.step (s := (.val (v11))) [(11, none)] rfl (by kernel_rfl) (op_out 11 (v11) rfl (.inl rfl) rfl) ?_
          refine LinL.step (s := (.val (.int .i64 (L.length : Nat)))) [(99, some 0)] rfl (by kernel_rfl) (op_runs rfl fun σ w' hx hg => ⟨_, runs_leni (ρ := σ.eval) (w := w') (.tmp 99) rfl hg.1 (j11.ext hx), rfl⟩) ?_
          refine LinL.step (s := (.val (.int .i64 (L.length : Nat)))) [(10, none)] rfl (by kernel_rfl) (op_out 10 (.int .i64 (L.length : Nat)) rfl (.inl rfl) rfl) ?_
          refine LinL.step (s := (.val (.bool false))) [(100, some 1), (101, some 0)] rfl (by kernel_rfl) (op_runs rfl fun σ w' hx hg => ⟨(.bool false), by have h100 : σ.tmps.getD 100 undef = .int .i64 (L.length : Nat) := hg.1; have h101 : σ.tmps.getD 101 undef = .int .i64 (L.length : Nat) := hg.2.1; unfold Runs execOp; simp [Act.eval, h100, h101, go_sem], rfl⟩) ?_
          refine LinL.step (s := (.val (.bool false))) [(102, some 0)] rfl (by kernel_rfl) (op_copy 102 0 (.val (.bool false)) rfl (.inl rfl) rfl) ?_
          refine LinL.step (s := (.val (v11))) [(11, none), (103, some 0)] rfl (by kernel_rfl) (op_yes (reads := [(11, none)]) 4 103 0 false rfl rfl rfl (op_out 11 (v11) rfl (.inl rfl) rfl)) ?_
          refine LinL.step (s := (.val (.int .i64 (L.length : Nat)))) [(10, none), (103, some 1)] rfl (by kernel_rfl) (op_yes (reads := [(10, none)]) 4 103 1 false rfl rfl rfl (op_out 10 (.int .i64 (L.length : Nat)) rfl (.inl rfl) rfl)) ?_
          refine LinL.step (s := (.val (.int .i64 ((L.length - 1 : Nat) : Int)))) [(105, some 0), (103, some 2)] rfl (by kernel_rfl) (op_yes (reads := [(105, some 0)]) 4 103 2 false rfl rfl rfl (op_runs rfl fun σ w' hx hg => ⟨_, runs_sub (ρ := σ.eval) (w := w') (.tmp 105) (.const (.int .i64 1)) (((L.length - 1 : Nat) : Int)) (by omega) (by omega) rfl hg.1 rfl, rfl⟩)) ?_
          refine LinL.step (s := (Sp.ptr (.int .i64 (n)))) [(104, some 2), (106, some 0), (103, some 3)] rfl (by kernel_rfl) (op_yes (reads := [(104, some 2), (106, some 0)]) 4 103 3 false rfl rfl rfl (op_runs rfl fun σ w' hx hg => rptri (ρ := σ.eval) (w := w') (.tmp 104) (.tmp 106) rfl hg.1 (j11.ext hx) ((L.length - 1)) hg.2.1 hlast.out.choose hlast.out.choose_spec)) ?_
          refine LinL.step (s := (.val (.int .i64 (n : Int)))) [(107, some 0), (103, some 4)] rfl (by kernel_rfl) (op_yes (reads := [(107, some 0)]) 4 103 4 false rfl rfl rfl (op_runs rfl fun σ w' hx hg => ⟨_, runs_load (ρ := σ.eval) (w := w') (.tmp 107) rfl Try.underlying3 rfl hg.1, rfl⟩)) ?_
          refine LinL.step (s := (.val (.int .i64 n))) [(7, none), (103, some 5)] rfl (by kernel_rfl) (op_yes (reads := [(7, none)]) 4 103 5 false rfl rfl rfl (op_out 7 (.int .i64 n) rfl (.inl rfl) rfl)) ?_
          refine LinL.step (s := (.val (.bool false))) [(108, some 1), (109, some 0), (103, some 6)] rfl (by kernel_rfl) (op_yes (reads := [(108, some 1), (109, some 0)]) 4 103 6 false rfl rfl rfl (op_runs rfl fun σ w' hx hg => ⟨(.bool false), by have h108 : σ.tmps.getD 108 undef = .int .i64 (n : Int) := hg.1; have h109 : σ.tmps.getD 109 undef = .int .i64 n := hg.2.1; unfold Runs execOp; simp [Act.eval, h108, h109, go_sem], rfl⟩)) ?_
          refine LinL.step (s := (.val (.bool false))) [(103, some 7), (110, some 0)] rfl (by kernel_rfl) (op_runs rfl fun σ w' hx hg => ⟨_, runs_pick_f (ρ := σ.eval) (w := w') (.tmp 103) (.const (.bool true)) (.tmp 110) rfl hg.1 hg.2.1, rfl⟩) ?_
          refine LinL.step (s := (.val (.bool false))) [(111, some 0)] rfl (by kernel_rfl) (op_copy 111 0 (.val (.bool false)) rfl (.inl rfl) rfl) ?_
          refine LinL.step (s := (.val (.pointer (some ⟨p, 0, none⟩)))) [(3, none), (112, some 0)] rfl (by kernel_rfl) (op_yes (reads := [(3, none)]) 13 112 0 false rfl rfl rfl (op_out 3 (.pointer (some ⟨p, 0, none⟩)) rfl (.inl rfl) rfl)) ?_
          refine LinL.step (s := (.val (.int .i64 n))) [(7, none), (112, some 1)] rfl (by kernel_rfl) (op_yes (reads := [(7, none)]) 13 112 1 false rfl rfl rfl (op_out 7 (.int .i64 n) rfl (.inl rfl) rfl)) ?_
          refine LinL.step (s := (.val (.int .i64 b.parent))) [(113, some 1), (114, some 0), (112, some 2)] rfl (by kernel_rfl) (op_yes (reads := [(113, some 1), (114, some 0)]) 13 112 2 false rfl rfl rfl (op_calls 34 #[(.tmp 113), (.tmp 114), (.const (.int .i64 1))] #[22, 3, 3] (fun σ => #[.pointer (some ⟨p, 0, none⟩), .int .i64 n, .int .i64 1]) rfl rfl (fun _ _ => rfl) fun σ w' hx hg => ⟨by have h113 : σ.tmps.getD 113 undef = .pointer (some ⟨p, 0, none⟩) := hg.1; have h114 : σ.tmps.getD 114 undef = .int .i64 n := hg.2.1; simp only [List.map_toArray, List.map_cons, List.map_nil, Act.eval, h113, h114], retH (hB1.out w' (hX.trans (hxd.trans hx)))⟩)) ?_
          refine LinL.step (s := (.val (.pointer (some ⟨g8, 3, none⟩)))) [(8, none), (112, some 3)] rfl (by kernel_rfl) (op_yes (reads := [(8, none)]) 13 112 3 false rfl rfl rfl (op_runs rfl fun σ w' hx hg => ⟨_, runs_field (ρ := σ.eval) (w := w') Try.stBlk (.tmp 8) g8 3 rfl hg.1 (by omega), rfl⟩)) ?_
          refine LinL.step (s := (.val (.int .i64 b.parent))) [(116, some 0), (112, some 4)] rfl (by kernel_rfl) (op_yes (reads := [(116, some 0)]) 13 112 4 false rfl rfl rfl (op_runs rfl fun σ w' hx hg => ⟨_, runs_fload (ρ := σ.eval) (w := w') (.tmp 116) rfl hg.1 (agg_of (by kernel_rfl) _) (F8.ext hx) rfl, rfl⟩)) ?_
          refine LinL.step (s := (.val (.bool false))) [(115, some 2), (117, some 0), (112, some 5)] rfl (by kernel_rfl) (op_yes (reads := [(115, some 2), (117, some 0)]) 13 112 5 false rfl rfl rfl (op_runs rfl fun σ w' hx hg => ⟨(.bool false), by have h115 : σ.tmps.getD 115 undef = .int .i64 b.parent := hg.1; have h117 : σ.tmps.getD 117 undef = .int .i64 b.parent := hg.2.1; unfold Runs execOp; simp [Act.eval, h115, h117, go_sem], rfl⟩)) ?_
          refine LinL.step (s := (.val (.bool false))) [(112, some 6), (118, some 0)] rfl (by kernel_rfl) (op_runs rfl fun σ w' hx hg => ⟨_, runs_pick_f (ρ := σ.eval) (w := w') (.tmp 112) (.const (.bool true)) (.tmp 118) rfl hg.1 hg.2.1, rfl⟩) ?_
          refine LinL.step (s := (.val (.bool false))) [(119, some 0)] rfl (by kernel_rfl) (op_copy 119 0 (.val (.bool false)) rfl (.inl rfl) rfl) ?_
          refine LinL.step (s := (.val (.pointer (some ⟨p, 0, none⟩)))) [(3, none), (120, some 0)] rfl (by kernel_rfl) (op_yes (reads := [(3, none)]) 21 120 0 false rfl rfl rfl (op_out 3 (.pointer (some ⟨p, 0, none⟩)) rfl (.inl rfl) rfl)) ?_
          refine LinL.step (s := (.val (.int .i64 n))) [(7, none), (120, some 1)] rfl (by kernel_rfl) (op_yes (reads := [(7, none)]) 21 120 1 false rfl rfl rfl (op_out 7 (.int .i64 n) rfl (.inl rfl) rfl)) ?_
          refine LinL.step (s := (.val (.int .i64 (L.length : Nat)))) [(10, none), (120, some 2)] rfl (by kernel_rfl) (op_yes (reads := [(10, none)]) 21 120 2 false rfl rfl rfl (op_out 10 (.int .i64 (L.length : Nat)) rfl (.inl rfl) rfl)) ?_
          refine LinL.step (s := (.val (.int .i64 0))) [(121, some 2), (122, some 1), (123, some 0), (120, some 3)] rfl (by kernel_rfl) (op_yes (reads := [(121, some 2), (122, some 1), (123, some 0)]) 21 120 3 false rfl rfl rfl (op_calls 34 #[(.tmp 121), (.tmp 122), (.tmp 123)] #[22, 3, 3] (fun σ => #[.pointer (some ⟨p, 0, none⟩), .int .i64 n, .int .i64 (L.length : Nat)]) rfl rfl (fun _ _ => rfl) fun σ w' hx hg => ⟨by have h121 : σ.tmps.getD 121 undef = .pointer (some ⟨p, 0, none⟩) := hg.1; have h122 : σ.tmps.getD 122 undef = .int .i64 n := hg.2.1; have h123 : σ.tmps.getD 123 undef = .int .i64 (L.length : Nat) := hg.2.2.1; simp only [List.map_toArray, List.map_cons, List.map_nil, Act.eval, h121, h122, h123], retH (hB2.out w' (hX.trans (hxd.trans hx)))⟩)) ?_
          refine LinL.step (s := (.val (.bool false))) [(124, some 0), (120, some 4)] rfl (by kernel_rfl) (op_yes (reads := [(124, some 0)]) 21 120 4 false rfl rfl rfl (op_runs rfl fun σ w' hx hg => ⟨(.bool false), by have h124 : σ.tmps.getD 124 undef = .int .i64 0 := hg.1; unfold Runs execOp; simp [Act.eval, h124, go_sem], rfl⟩)) ?_
          refine LinL.step (s := (.val (.bool false))) [(120, some 5), (125, some 0)] rfl (by kernel_rfl) (op_runs rfl fun σ w' hx hg => ⟨_, runs_pick_f (ρ := σ.eval) (w := w') (.tmp 120) (.const (.bool true)) (.tmp 125) rfl hg.1 hg.2.1, rfl⟩) ?_
          refine LinL.step (s := (.val (.bool false))) [(126, some 0)] rfl (by kernel_rfl) (op_copy 126 0 (.val (.bool false)) rfl (.inl rfl) rfl) ?_
          refine LinL.step (s := (.val (.pointer (some ⟨p, 0, none⟩)))) [(3, none), (127, some 0)] rfl (by kernel_rfl) (op_yes (reads := [(3, none)]) 28 127 0 false rfl rfl rfl (op_out 3 (.pointer (some ⟨p, 0, none⟩)) rfl (.inl rfl) rfl)) ?_
          refine LinL.step (s := (.val (.int .i64 n))) [(7, none), (127, some 1)] rfl (by kernel_rfl) (op_yes (reads := [(7, none)]) 28 127 1 false rfl rfl rfl (op_out 7 (.int .i64 n) rfl (.inl rfl) rfl)) ?_
          refine LinL.step (s := (.val (.int .i64 (L.length : Nat)))) [(10, none), (127, some 2)] rfl (by kernel_rfl) (op_yes (reads := [(10, none)]) 28 127 2 false rfl rfl rfl (op_out 10 (.int .i64 (L.length : Nat)) rfl (.inl rfl) rfl)) ?_
          refine LinL.step (s := (.val (.int .i64 ((L.length : Int) - 1)))) [(130, some 0), (127, some 3)] rfl (by kernel_rfl) (op_yes (reads := [(130, some 0)]) 28 127 3 false rfl rfl rfl (op_runs rfl fun σ w' hx hg => ⟨_, runs_sub (ρ := σ.eval) (w := w') (.tmp 130) (.const (.int .i64 1)) (((L.length : Int) - 1)) (by omega) (by omega) rfl hg.1 rfl, rfl⟩)) ?_
          refine LinL.step (s := (.val (.int .i64 x0))) [(128, some 3), (129, some 2), (131, some 0), (127, some 4)] rfl (by kernel_rfl) (op_yes (reads := [(128, some 3), (129, some 2), (131, some 0)]) 28 127 4 false rfl rfl rfl (op_calls 34 #[(.tmp 128), (.tmp 129), (.tmp 131)] #[22, 3, 3] (fun σ => #[.pointer (some ⟨p, 0, none⟩), .int .i64 n, .int .i64 ((L.length : Int) - 1)]) rfl rfl (fun _ _ => rfl) fun σ w' hx hg => ⟨by have h128 : σ.tmps.getD 128 undef = .pointer (some ⟨p, 0, none⟩) := hg.1; have h129 : σ.tmps.getD 129 undef = .int .i64 n := hg.2.1; have h131 : σ.tmps.getD 131 undef = .int .i64 ((L.length : Int) - 1) := hg.2.2.1; simp only [List.map_toArray, List.map_cons, List.map_nil, Act.eval, h128, h129, h131], retH (hB3.out w' (hX.trans (hxd.trans hx)))⟩)) ?_
          refine LinL.step (s := (.val (v11))) [(11, none), (127, some 5)] rfl (by kernel_rfl) (op_yes (reads := [(11, none)]) 28 127 5 false rfl rfl rfl (op_out 11 (v11) rfl (.inl rfl) rfl)) ?_
          refine LinL.step (s := (Sp.ptr (.int .i64 (x0)))) [(133, some 0), (127, some 6)] rfl (by kernel_rfl) (op_yes (reads := [(133, some 0)]) 28 127 6 false rfl rfl rfl (op_runs rfl fun σ w' hx hg => rptri (ρ := σ.eval) (w := w') (.tmp 133) (.const (.int .i64 0)) rfl hg.1 (j11.ext hx) 0 rfl hfst.out.choose hfst.out.choose_spec)) ?_
          refine LinL.step (s := (.val (.int .i64 (x0 : Int)))) [(134, some 0), (127, some 7)] rfl (by kernel_rfl) (op_yes (reads := [(134, some 0)]) 28 127 7 false rfl rfl rfl (op_runs rfl fun σ w' hx hg => ⟨_, runs_load (ρ := σ.eval) (w := w') (.tmp 134) rfl Try.underlying3 rfl hg.1, rfl⟩)) ?_
          refine LinL.step (s := (.val (.bool false))) [(132, some 3), (135, some 0), (127, some 8)] rfl (by kernel_rfl) (op_yes (reads := [(132, some 3), (135, some 0)]) 28 127 8 false rfl rfl rfl (op_runs rfl fun σ w' hx hg => ⟨(.bool false), by have h132 : σ.tmps.getD 132 undef = .int .i64 x0 := hg.1; have h135 : σ.tmps.getD 135 undef = .int .i64 (x0 : Int) := hg.2.1; unfold Runs execOp; simp [Act.eval, h132, h135, go_sem], rfl⟩)) ?_
          refine LinL.step (s := (.val (.bool false))) [(127, some 9), (136, some 0)] rfl (by kernel_rfl) (op_runs rfl fun σ w' hx hg => ⟨_, runs_pick_f (ρ := σ.eval) (w := w') (.tmp 127) (.const (.bool true)) (.tmp 136) rfl hg.1 hg.2.1, rfl⟩) ?_
          intro wN hxN
          simp only [Fin', Sp.ptr, List.reverse_cons, List.reverse_nil, List.nil_append, List.cons_append, List.drop_zero, List.take_succ_cons, List.take_zero]
          intro q107 hq107 q134 hq134
          simp only [Act.put, List.setIfInBounds_toArray, List.set_cons_zero, List.set_cons_succ]
          replace hX := hX.trans (hxd.trans hxN)
          clear hxd hxN
          go_wp2
          go_roundw
          case rel => exact ⟨k + 1, by go_num, hlt'.out, hX⟩
          case measure => have := hlt'.out; simp [RowKit.intOf]; omega
        · clear hHs0
          go_wp2_with ((first
          | (go_at_call 24; (with_reducible refine (hG.out _ hX).mono ?_); rintro e w5 ⟨u8, rfl, r8, hx⟩; have hone8 := blk_one (a := b.slot) (b := b.miner) (c := b.var) (d := b.parent) r8.one'; replace hX := hX.trans hx; clear hx)
          | (go_at_call 16; (with_reducible refine (hH1.out _ hX).mono ?_); rintro e w5 ⟨rfl, hx⟩; replace f8 := f8.ext hx; replace r8 := r8.ext TxR.stays hx; replace hX := hX.trans hx; clear hx)
          | (go_at_call 16; (with_reducible refine (hH2.out _ hX).mono ?_); rintro e w5 ⟨rfl, hx⟩; replace f8 := f8.ext hx; replace r8 := r8.ext TxR.stays hx; replace hX := hX.trans hx; clear hx)
          | (go_at_call 16; (with_reducible refine (hH3.out _ hX).mono ?_); rintro e w5 ⟨rfl, hx⟩; replace f8 := f8.ext hx; replace r8 := r8.ext TxR.stays hx; replace hX := hX.trans hx; clear hx)
          | (go_at_call 12; (with_reducible refine (hTp.out _ hX).mono ?_); rintro e w5 ⟨rfl, hx⟩; replace f8 := f8.ext hx; replace r8 := r8.ext TxR.stays hx; replace hX := hX.trans hx; clear hx)
          | (go_at_call 32; (with_reducible refine (hPa.out _ hX).mono ?_); rintro e w5 ⟨v11, rfl, o11, hx⟩; replace o11 := o11.ints; replace f8 := f8.ext hx; replace r8 := r8.ext TxR.stays hx; replace hX := hX.trans hx; clear hx)
          | (go_at_call 38; refine (BName_any (b := b) r8 hpI'.out).mono ?_; rintro e w5 ⟨rfl, hx⟩; rw [hbn'.out]; replace f8 := f8.ext hx; replace r8 := r8.ext TxR.stays hx; replace hX := hX.trans hx; clear hx)
          | ((with_reducible refine at_idx ?_); refine i_idx _ _ k rfl rfl rfl (o1.out.ext hX) rfl hlt'.out ?_; intro ad had; rw [hn1.out] at had)
          | ((with_reducible refine at_alloc ?_); refine w_alloc Try.stBlk rfl rfl ?_; intro g8 w2 hg2 hx2 f8)
          | ((with_reducible refine at_store ?_); refine w_astore Try.stBlk _ _ (us := bRow b u8) rfl rfl rfl rfl rfl f8 rfl rfl hone8 ?_; intro w3 hm3 f3; replace f8 : Fs w3 g8 (bRow b u8) := f3; replace hx2 := hm3.after hx2 (fun i hi => by subst hi; exact hg2); replace r8 := r8.ext TxR.stays hx2; replace hX := hX.trans hx2; clear hm3 f3 hx2)
          | ((with_reducible refine at_field ?_); (try refine w_yes _ _ _ rfl rfl rfl ?_); refine w_field Try.stBlk _ _ _ rfl rfl rfl (by omega) ?_)
          | ((with_reducible refine at_load ?_); (try refine w_yes _ _ _ rfl rfl rfl ?_); refine w_aload Try.stBlk _ rfl rfl rfl f8 rfl ?_)
          | ((with_reducible refine at_load ?_); (try refine w_yes _ _ _ rfl rfl rfl ?_); refine w_fload _ rfl rfl rfl f8 rfl (agg_of (by kernel_rfl)) ?_)
          | fail) <;> (try simp only [Act.put, List.setIfInBounds_toArray, List.set_cons_zero, List.set_cons_succ]))
          refine wp_region_phx (by kernel_rfl) ?_; intro wd hxd; have F8 := f8.ext hxd; have j11 := o11.ext hxd
          refine Ph.rest 0 39 (by kernel_rfl) ?_
          refine LinL.step (s := (.val (v11))) [(11, none)] rfl (by kernel_rfl) (op_out 11 (v11) rfl (.inl rfl) rfl) ?_
          refine LinL.step (s := (.val (.int .i64 (L.length : Nat)))) [(99, some 0)] rfl (by kernel_rfl) (op_runs rfl fun σ w' hx hg => ⟨_, runs_leni (ρ := σ.eval) (w := w') (.tmp 99) rfl hg.1 (j11.ext hx), rfl⟩) ?_
          refine LinL.step (s := (.val (.int .i64 (L.length : Nat)))) [(10, none)] rfl (by kernel_rfl) (op_out 10 (.int .i64 (L.length : Nat)) rfl (.inl rfl) rfl) ?_
          refine LinL.step (s := (.val (.bool false))) [(100, some 1), (101, some 0)] rfl (by kernel_rfl) (op_runs rfl fun σ w' hx hg => ⟨(.bool false), by have h100 : σ.tmps.getD 100 undef = .int .i64 (L.length : Nat) := hg.1; have h101 : σ.tmps.getD 101 undef = .int .i64 (L.length : Nat) := hg.2.1; unfold Runs execOp; simp [Act.eval, h100, h101, go_sem], rfl⟩) ?_
          refine LinL.step (s := (.val (.bool false))) [(102, some 0)] rfl (by kernel_rfl) (op_copy 102 0 (.val (.bool false)) rfl (.inl rfl) rfl) ?_
          refine LinL.step (s := (.val (v11))) [(11, none), (103, some 0)] rfl (by kernel_rfl) (op_yes (reads := [(11, none)]) 4 103 0 false rfl rfl rfl (op_out 11 (v11) rfl (.inl rfl) rfl)) ?_
          refine LinL.step (s := (.val (.int .i64 (L.length : Nat)))) [(10, none), (103, some 1)] rfl (by kernel_rfl) (op_yes (reads := [(10, none)]) 4 103 1 false rfl rfl rfl (op_out 10 (.int .i64 (L.length : Nat)) rfl (.inl rfl) rfl)) ?_
          refine LinL.step (s := (.val (.int .i64 ((L.length - 1 : Nat) : Int)))) [(105, some 0), (103, some 2)] rfl (by kernel_rfl) (op_yes (reads := [(105, some 0)]) 4 103 2 false rfl rfl rfl (op_runs rfl fun σ w' hx hg => ⟨_, runs_sub (ρ := σ.eval) (w := w') (.tmp 105) (.const (.int .i64 1)) (((L.length - 1 : Nat) : Int)) (by omega) (by omega) rfl hg.1 rfl, rfl⟩)) ?_
          refine LinL.step (s := (Sp.ptr (.int .i64 (n)))) [(104, some 2), (106, some 0), (103, some 3)] rfl (by kernel_rfl) (op_yes (reads := [(104, some 2), (106, some 0)]) 4 103 3 false rfl rfl rfl (op_runs rfl fun σ w' hx hg => rptri (ρ := σ.eval) (w := w') (.tmp 104) (.tmp 106) rfl hg.1 (j11.ext hx) ((L.length - 1)) hg.2.1 hlast.out.choose hlast.out.choose_spec)) ?_
          refine LinL.step (s := (.val (.int .i64 (n : Int)))) [(107, some 0), (103, some 4)] rfl (by kernel_rfl) (op_yes (reads := [(107, some 0)]) 4 103 4 false rfl rfl rfl (op_runs rfl fun σ w' hx hg => ⟨_, runs_load (ρ := σ.eval) (w := w') (.tmp 107) rfl Try.underlying3 rfl hg.1, rfl⟩)) ?_
          refine LinL.step (s := (.val (.int .i64 n))) [(7, none), (103, some 5)] rfl (by kernel_rfl) (op_yes (reads := [(7, none)]) 4 103 5 false rfl rfl rfl (op_out 7 (.int .i64 n) rfl (.inl rfl) rfl)) ?_
          refine LinL.step (s := (.val (.bool false))) [(108, some 1), (109, some 0), (103, some 6)] rfl (by kernel_rfl) (op_yes (reads := [(108, some 1), (109, some 0)]) 4 103 6 false rfl rfl rfl (op_runs rfl fun σ w' hx hg => ⟨(.bool false), by have h108 : σ.tmps.getD 108 undef = .int .i64 (n : Int) := hg.1; have h109 : σ.tmps.getD 109 undef = .int .i64 n := hg.2.1; unfold Runs execOp; simp [Act.eval, h108, h109, go_sem], rfl⟩)) ?_
          refine LinL.step (s := (.val (.bool false))) [(103, some 7), (110, some 0)] rfl (by kernel_rfl) (op_runs rfl fun σ w' hx hg => ⟨_, runs_pick_f (ρ := σ.eval) (w := w') (.tmp 103) (.const (.bool true)) (.tmp 110) rfl hg.1 hg.2.1, rfl⟩) ?_
          refine LinL.step (s := (.val (.bool false))) [(111, some 0)] rfl (by kernel_rfl) (op_copy 111 0 (.val (.bool false)) rfl (.inl rfl) rfl) ?_
          refine LinL.step (s := (.val (.pointer (some ⟨p, 0, none⟩)))) [(3, none), (112, some 0)] rfl (by kernel_rfl) (op_yes (reads := [(3, none)]) 13 112 0 false rfl rfl rfl (op_out 3 (.pointer (some ⟨p, 0, none⟩)) rfl (.inl rfl) rfl)) ?_
          refine LinL.step (s := (.val (.int .i64 n))) [(7, none), (112, some 1)] rfl (by kernel_rfl) (op_yes (reads := [(7, none)]) 13 112 1 false rfl rfl rfl (op_out 7 (.int .i64 n) rfl (.inl rfl) rfl)) ?_
          refine LinL.step (s := (.val (.int .i64 b.parent))) [(113, some 1), (114, some 0), (112, some 2)] rfl (by kernel_rfl) (op_yes (reads := [(113, some 1), (114, some 0)]) 13 112 2 false rfl rfl rfl (op_calls 34 #[(.tmp 113), (.tmp 114), (.const (.int .i64 1))] #[22, 3, 3] (fun σ => #[.pointer (some ⟨p, 0, none⟩), .int .i64 n, .int .i64 1]) rfl rfl (fun _ _ => rfl) fun σ w' hx hg => ⟨by have h113 : σ.tmps.getD 113 undef = .pointer (some ⟨p, 0, none⟩) := hg.1; have h114 : σ.tmps.getD 114 undef = .int .i64 n := hg.2.1; simp only [List.map_toArray, List.map_cons, List.map_nil, Act.eval, h113, h114], retH (hB1.out w' (hX.trans (hxd.trans hx)))⟩)) ?_
          refine LinL.step (s := (.val (.pointer (some ⟨g8, 3, none⟩)))) [(8, none), (112, some 3)] rfl (by kernel_rfl) (op_yes (reads := [(8, none)]) 13 112 3 false rfl rfl rfl (op_runs rfl fun σ w' hx hg => ⟨_, runs_field (ρ := σ.eval) (w := w') Try.stBlk (.tmp 8) g8 3 rfl hg.1 (by omega), rfl⟩)) ?_
          refine LinL.step (s := (.val (.int .i64 b.parent))) [(116, some 0), (112, some 4)] rfl (by kernel_rfl) (op_yes (reads := [(116, some 0)]) 13 112 4 false rfl rfl rfl (op_runs rfl fun σ w' hx hg => ⟨_, runs_fload (ρ := σ.eval) (w := w') (.tmp 116) rfl hg.1 (agg_of (by kernel_rfl) _) (F8.ext hx) rfl, rfl⟩)) ?_
          refine LinL.step (s := (.val (.bool false))) [(115, some 2), (117, some 0), (112, some 5)] rfl (by kernel_rfl) (op_yes (reads := [(115, some 2), (117, some 0)]) 13 112 5 false rfl rfl rfl (op_runs rfl fun σ w' hx hg => ⟨(.bool false), by have h115 : σ.tmps.getD 115 undef = .int .i64 b.parent := hg.1; have h117 : σ.tmps.getD 117 undef = .int .i64 b.parent := hg.2.1; unfold Runs execOp; simp [Act.eval, h115, h117, go_sem], rfl⟩)) ?_
          refine LinL.step (s := (.val (.bool false))) [(112, some 6), (118, some 0)] rfl (by kernel_rfl) (op_runs rfl fun σ w' hx hg => ⟨_, runs_pick_f (ρ := σ.eval) (w := w') (.tmp 112) (.const (.bool true)) (.tmp 118) rfl hg.1 hg.2.1, rfl⟩) ?_
          refine LinL.step (s := (.val (.bool false))) [(119, some 0)] rfl (by kernel_rfl) (op_copy 119 0 (.val (.bool false)) rfl (.inl rfl) rfl) ?_
          refine LinL.step (s := (.val (.pointer (some ⟨p, 0, none⟩)))) [(3, none), (120, some 0)] rfl (by kernel_rfl) (op_yes (reads := [(3, none)]) 21 120 0 false rfl rfl rfl (op_out 3 (.pointer (some ⟨p, 0, none⟩)) rfl (.inl rfl) rfl)) ?_
          refine LinL.step (s := (.val (.int .i64 n))) [(7, none), (120, some 1)] rfl (by kernel_rfl) (op_yes (reads := [(7, none)]) 21 120 1 false rfl rfl rfl (op_out 7 (.int .i64 n) rfl (.inl rfl) rfl)) ?_
          refine LinL.step (s := (.val (.int .i64 (L.length : Nat)))) [(10, none), (120, some 2)] rfl (by kernel_rfl) (op_yes (reads := [(10, none)]) 21 120 2 false rfl rfl rfl (op_out 10 (.int .i64 (L.length : Nat)) rfl (.inl rfl) rfl)) ?_
          refine LinL.step (s := (.val (.int .i64 0))) [(121, some 2), (122, some 1), (123, some 0), (120, some 3)] rfl (by kernel_rfl) (op_yes (reads := [(121, some 2), (122, some 1), (123, some 0)]) 21 120 3 false rfl rfl rfl (op_calls 34 #[(.tmp 121), (.tmp 122), (.tmp 123)] #[22, 3, 3] (fun σ => #[.pointer (some ⟨p, 0, none⟩), .int .i64 n, .int .i64 (L.length : Nat)]) rfl rfl (fun _ _ => rfl) fun σ w' hx hg => ⟨by have h121 : σ.tmps.getD 121 undef = .pointer (some ⟨p, 0, none⟩) := hg.1; have h122 : σ.tmps.getD 122 undef = .int .i64 n := hg.2.1; have h123 : σ.tmps.getD 123 undef = .int .i64 (L.length : Nat) := hg.2.2.1; simp only [List.map_toArray, List.map_cons, List.map_nil, Act.eval, h121, h122, h123], retH (hB2.out w' (hX.trans (hxd.trans hx)))⟩)) ?_
          refine LinL.step (s := (.val (.bool false))) [(124, some 0), (120, some 4)] rfl (by kernel_rfl) (op_yes (reads := [(124, some 0)]) 21 120 4 false rfl rfl rfl (op_runs rfl fun σ w' hx hg => ⟨(.bool false), by have h124 : σ.tmps.getD 124 undef = .int .i64 0 := hg.1; unfold Runs execOp; simp [Act.eval, h124, go_sem], rfl⟩)) ?_
          refine LinL.step (s := (.val (.bool false))) [(120, some 5), (125, some 0)] rfl (by kernel_rfl) (op_runs rfl fun σ w' hx hg => ⟨_, runs_pick_f (ρ := σ.eval) (w := w') (.tmp 120) (.const (.bool true)) (.tmp 125) rfl hg.1 hg.2.1, rfl⟩) ?_
          refine LinL.step (s := (.val (.bool false))) [(126, some 0)] rfl (by kernel_rfl) (op_copy 126 0 (.val (.bool false)) rfl (.inl rfl) rfl) ?_
          refine LinL.step (s := (.val (.pointer (some ⟨p, 0, none⟩)))) [(3, none), (127, some 0)] rfl (by kernel_rfl) (op_yes (reads := [(3, none)]) 28 127 0 false rfl rfl rfl (op_out 3 (.pointer (some ⟨p, 0, none⟩)) rfl (.inl rfl) rfl)) ?_
          refine LinL.step (s := (.val (.int .i64 n))) [(7, none), (127, some 1)] rfl (by kernel_rfl) (op_yes (reads := [(7, none)]) 28 127 1 false rfl rfl rfl (op_out 7 (.int .i64 n) rfl (.inl rfl) rfl)) ?_
          refine LinL.step (s := (.val (.int .i64 (L.length : Nat)))) [(10, none), (127, some 2)] rfl (by kernel_rfl) (op_yes (reads := [(10, none)]) 28 127 2 false rfl rfl rfl (op_out 10 (.int .i64 (L.length : Nat)) rfl (.inl rfl) rfl)) ?_
          refine LinL.step (s := (.val (.int .i64 ((L.length : Int) - 1)))) [(130, some 0), (127, some 3)] rfl (by kernel_rfl) (op_yes (reads := [(130, some 0)]) 28 127 3 false rfl rfl rfl (op_runs rfl fun σ w' hx hg => ⟨_, runs_sub (ρ := σ.eval) (w := w') (.tmp 130) (.const (.int .i64 1)) (((L.length : Int) - 1)) (by omega) (by omega) rfl hg.1 rfl, rfl⟩)) ?_
          refine LinL.step (s := (.val (.int .i64 x0))) [(128, some 3), (129, some 2), (131, some 0), (127, some 4)] rfl (by kernel_rfl) (op_yes (reads := [(128, some 3), (129, some 2), (131, some 0)]) 28 127 4 false rfl rfl rfl (op_calls 34 #[(.tmp 128), (.tmp 129), (.tmp 131)] #[22, 3, 3] (fun σ => #[.pointer (some ⟨p, 0, none⟩), .int .i64 n, .int .i64 ((L.length : Int) - 1)]) rfl rfl (fun _ _ => rfl) fun σ w' hx hg => ⟨by have h128 : σ.tmps.getD 128 undef = .pointer (some ⟨p, 0, none⟩) := hg.1; have h129 : σ.tmps.getD 129 undef = .int .i64 n := hg.2.1; have h131 : σ.tmps.getD 131 undef = .int .i64 ((L.length : Int) - 1) := hg.2.2.1; simp only [List.map_toArray, List.map_cons, List.map_nil, Act.eval, h128, h129, h131], retH (hB3.out w' (hX.trans (hxd.trans hx)))⟩)) ?_
          refine LinL.step (s := (.val (v11))) [(11, none), (127, some 5)] rfl (by kernel_rfl) (op_yes (reads := [(11, none)]) 28 127 5 false rfl rfl rfl (op_out 11 (v11) rfl (.inl rfl) rfl)) ?_
          refine LinL.step (s := (Sp.ptr (.int .i64 (x0)))) [(133, some 0), (127, some 6)] rfl (by kernel_rfl) (op_yes (reads := [(133, some 0)]) 28 127 6 false rfl rfl rfl (op_runs rfl fun σ w' hx hg => rptri (ρ := σ.eval) (w := w') (.tmp 133) (.const (.int .i64 0)) rfl hg.1 (j11.ext hx) 0 rfl hfst.out.choose hfst.out.choose_spec)) ?_
          refine LinL.step (s := (.val (.int .i64 (x0 : Int)))) [(134, some 0), (127, some 7)] rfl (by kernel_rfl) (op_yes (reads := [(134, some 0)]) 28 127 7 false rfl rfl rfl (op_runs rfl fun σ w' hx hg => ⟨_, runs_load (ρ := σ.eval) (w := w') (.tmp 134) rfl Try.underlying3 rfl hg.1, rfl⟩)) ?_
          refine LinL.step (s := (.val (.bool false))) [(132, some 3), (135, some 0), (127, some 8)] rfl (by kernel_rfl) (op_yes (reads := [(132, some 3), (135, some 0)]) 28 127 8 false rfl rfl rfl (op_runs rfl fun σ w' hx hg => ⟨(.bool false), by have h132 : σ.tmps.getD 132 undef = .int .i64 x0 := hg.1; have h135 : σ.tmps.getD 135 undef = .int .i64 (x0 : Int) := hg.2.1; unfold Runs execOp; simp [Act.eval, h132, h135, go_sem], rfl⟩)) ?_
          refine LinL.step (s := (.val (.bool false))) [(127, some 9), (136, some 0)] rfl (by kernel_rfl) (op_runs rfl fun σ w' hx hg => ⟨_, runs_pick_f (ρ := σ.eval) (w := w') (.tmp 127) (.const (.bool true)) (.tmp 136) rfl hg.1 hg.2.1, rfl⟩) ?_
          intro wN hxN
          simp only [Fin', Sp.ptr, List.reverse_cons, List.reverse_nil, List.nil_append, List.cons_append, List.drop_zero, List.take_succ_cons, List.take_zero]
          intro q107 hq107 q134 hq134
          simp only [Act.put, List.setIfInBounds_toArray, List.set_cons_zero, List.set_cons_succ]
          replace hX := hX.trans (hxd.trans hxN)
          clear hxd hxN
          go_wp2
          go_roundw
          case rel => exact ⟨k + 1, by go_num, hlt'.out, hX⟩
          case measure => have := hlt'.out; simp [RowKit.intOf]; omega

set_option maxRecDepth 100000 in
theorem treeStands_lifted (os : Os) (started : os.Started) (H : Type) (enc : TypeId × Value → H) :
    ReturnsInHanded {} Try.checked os 7 .any (Rows.treeStandsSpec.pre6 enc Try.prog Try.f7 Rows.treeStandsRow.domain false) (Rows.treeStandsSpec.post enc Try.prog Try.f7 false true false false) := by
  refine law_lifted (s := Rows.treeStandsSpec) (conds := Rows.treeStandsRow.domain) Try.func7 (by kernel_rfl) rfl (fun H ds h => by
      rw [show Try.f7.params.size = 1 from rfl] at h
      match ds, h with
      | [d0], _ => rfl) rfl rfl (by decide +kernel) os started H enc
    (ChangeSpec.witness6 (enc := enc) (C := Try.checked) false ⟨#[], #[.slice none 0 0], []⟩ 8 (by kernel_rfl) (by kernel_rfl) (by kernel_rfl) (by kernel_rfl)) ?_
  intro W base args ds p hval hA hsz _
  have hp : Try.f7.params.toList = [29] := rfl
  rw [hp] at hA hsz
  obtain ⟨v0, d0, rfl, rfl, h0⟩ := trodAll_one hA
  obtain ⟨l0, k0⟩ := arg_Blks hsz (j := 0) rfl rfl (hval 0 29 v0 rfl rfl) h0
  exact treeStands_law v0 l0 W k0

theorem treeStands_holds : Rows.TreeStandsSaid :=
  OpenClaim.holds_of_wide 7 Try.f7 rfl rfl rfl rfl rfl rfl rfl ⟨rfl, rfl, rfl, rfl, rfl⟩ rfl rfl rfl rfl rfl (by kernel_rfl) Try.func7 (by kernel_rfl)
    (of_decide_eq_true (by kernel_rfl)) (by unfold Func.isWrapper; first | (rw [if_pos (by decide +kernel)]; kernel_rfl) | (rw [if_neg (by decide +kernel)]; exact ⟨rfl, rfl⟩))
    (fun os started H enc _ => treeStands_lifted os started H enc)
#print axioms treeStands_holds

end Go.Proofs.Ytabelhoncmnpgaa
