/- The statement TreeGrows: what is known stays known, as it was, on the same way; the tip never gets lower; a block that came before changes nothing. No condition. -/
import Derived.Test.YtabelhoncmnpgaaTLh
namespace Go.Proofs.Ytabelhoncmnpgaa
set_option maxRecDepth 100000
open Go.RowKit Go.ChangeShapes Go.WideShapes Go.ChangeAt

theorem Add_r {G : Nat → Prop} {w : World} {p : Nat} {K V K2 V2 : List BlkD} {b : BlkD} {u : Value} {Ln : List Int} {ok : Bool} (hR : TrS.add ⟨K, V⟩ b = (⟨K2, V2⟩, Ln, ok)) (h00 : TrW G w p K V) (hV : V.length ≤ 16) (hu0 : Recs 2 TxR w u b.txs) (hraw : b.Raw) :
    Calls Try.prog 18 #[.pointer (some ⟨p, 0, none⟩), .agg #[.int .i64 b.slot, .int .i64 b.miner, .int .i64 b.var, .int .i64 b.parent, u]] w fun e w' => ∃ (v' : Value) (G' : Nat → Prop), e = .returned (.tuple #[v', .bool ok]) ∧ OwnI w.heap.size w' v' Ln ∧ TrW G' w' p K2 V2 ∧ Upd G G' w w' := by
  have h := Add_any h00 hV hu0 hraw
  rw [hR] at h; exact h
theorem upd_lt {G G' : Nat → Prop} {w w' : World} (hU : Upd G G' w w') (hG : ∀ k, G k → k < w.heap.size) : ∀ k, G' k → k < w'.heap.size := fun k hk => (hU.sub k hk).elim (fun h => Nat.lt_of_lt_of_le (hG k h) hU.size) fun h => h.2
theorem upd_not {G G' : Nat → Prop} {w w' : World} (hU : Upd G G' w w') {g : Nat} (hg : ¬ G g) (hl : g < w.heap.size) : ¬ G' g := fun h => (hU.sub g h).elim hg fun e => by omega

set_option maxRecDepth 100000 in
set_option maxHeartbeats 6400000 in
theorem treeGrows_law (v0 : Value) (l : List BlkD) (W : World) (hl00 : Recs 5 BlkL W v0 l) : Calls Try.prog 9 #[v0] W fun e w' => e = .returned (.bool true) ∧ Ext W w' := by
  refine calls_keep ?_
  have hl0 := hide_ hl00
  have hmax := hl00.len_le
  unfold maxLen at hmax
  have hraws := hide_ (fun k d (h : l[k]? = some d) => blks_at hl00 h)
  clear hl00
  by_cases hbig : 40 < l.length
  · have t1 : decide ((40 : Int) < (l.length : Int)) = true := decide_eq_true (by omega)
    go_enter Try.func9, Try.ntmps9
    go_wp2_with ((first
      | (go_at_call 11; refine (treeAlive_any _).mono ?_; rintro e w2 ⟨rfl, hX⟩)
      | ((with_reducible refine at_bi ?_); refine w_rlen Try.enBlk.elS _ rfl rfl rfl (hl0.out.ext BlkL.stays hX) ?_)
      | fail) <;> (try simp only [Act.put, List.setIfInBounds_toArray, List.set_cons_zero, List.set_cons_succ]))
    go_ret
    exact Keep.intro ⟨rfl, hX⟩
  have t1 : decide ((40 : Int) < (l.length : Int)) = false := decide_eq_false (by omega)
  go_enter Try.func9, Try.ntmps9
  go_wp2_with ((first
    | (go_at_call 10; refine (New_any (w := _)).mono ?_; rintro e w1 ⟨p, G, rfl, hT, hx, hG⟩; have hO : Out W G w1 := ⟨hX.trans hx, fun k hk => Nat.le_trans hX.size (hG k hk)⟩; clear hX hx hG)
    | (go_at_call 11; refine (treeAlive_any _).mono ?_; rintro e w2 ⟨rfl, hX⟩)
    | ((with_reducible refine at_bi ?_); have _t := hX; refine w_rlen Try.enBlk.elS _ rfl rfl rfl (hl0.out.ext BlkL.stays hX) ?_)
    | ((with_reducible refine at_bi ?_); refine w_rlen Try.enBlk.elS _ rfl rfl rfl (hl0.out.ext BlkL.stays hO.ext) ?_)
    | fail) <;> (try simp only [Act.put, List.setIfInBounds_toArray, List.set_cons_zero, List.set_cons_succ]))
  go_loopw [26] (fun i wr => ∃ (k : Nat) (G : Nat → Prop), i = .int .i64 k ∧ k ≤ l.length ∧ TrW G wr p (st l k).known (st l k).wait ∧ Out W G wr ∧ ∀ x, G x → x < wr.heap.size) (fun i _ => l.length - (RowKit.intOf i).toNat)
  case atStart =>
    have hT4 : TrW (fun k => G k ∧ k < w1.heap.size) w1 p (st l 0).known (st l 0).wait := by rw [st_zero]; exact hT.trim
    exact ⟨0, _, rfl, Nat.zero_le _, hT4, ⟨hO.ext, fun k hk => hO.new k (And.left hk)⟩, fun k hk => And.right hk⟩
  case round =>
    clear hT hO
    obtain ⟨k, G, rfl, hk, hT, hO, hGl⟩ := hrel
    by_cases hge : l.length ≤ k
    · obtain rfl : k = l.length := by omega
      have t2 : decide (l.length < l.length) = false := by simp
      clear hge
      go_wp2
      go_ret
      exact Keep.intro ⟨rfl, hO.ext⟩
    have hlt : k < l.length := by omega
    have t2 : decide (k < l.length) = true := by simpa using hlt
    obtain ⟨d, hd0⟩ : ∃ d, l[k]? = some d := ⟨_, List.getElem?_eq_getElem hlt⟩
    have hraw := hide_ (hraws.out k d hd0)
    have hst0 := st_succ hd0
    have hgood := st_good l k
    have hlt' := hide_ hlt
    have hd := hide_ hd0
    obtain ⟨⟨K, V⟩, hKV⟩ : ∃ t, st l k = t := ⟨_, rfl⟩
    rw [hKV] at hT hst0 hgood
    replace hT : TrW G wr p K V := hT
    obtain ⟨⟨⟨K2, V2⟩, Ln, okv⟩, hR⟩ : ∃ R, TrS.add ⟨K, V⟩ d = R := ⟨_, rfl⟩
    have hgood2 := add_good (d := d) hgood
    have e1 := add_names_len (d := d) hgood
    have e2 := add_path (d := d) hgood
    have e3 := add_high (d := d) hgood
    have e4 := (fun n => add_keeps (d := d) hgood (n := n))
    have hR20 := add_twice (d := d) hgood
    have hTI0 := tip_i64 hgood
    have e5 := (fun n (h : n ∈ TrS.names K) => (show I64 n from by obtain ⟨c, hc, hcn⟩ := TrS.mem_names.1 h; rw [← hcn]; exact (hgood.uq.right c hc).i64))
    have hNl : (TrS.names K).length ≤ 400 := by rw [hgood.names_len]; exact hgood.room
    have hV16 := hide_ (show V.length ≤ 16 from hgood.few)
    rw [hR] at hgood2 e1 e2 e3 e4 hR20 hst0
    have hV216 := hide_ (show V2.length ≤ 16 from hgood2.few)
    have hN2l : (TrS.names K2).length ≤ 400 := by rw [hgood2.names_len]; exact hgood2.room
    have hTI20 := tip_i64 hgood2
    simp only at e1 e2 e3 e4 hR20 hst0 hTI0 hTI20
    obtain ⟨N, hN⟩ : ∃ N, TrS.names K = N := ⟨_, rfl⟩
    obtain ⟨N2, hN2⟩ : ∃ N2, TrS.names K2 = N2 := ⟨_, rfl⟩
    obtain ⟨T, hTe⟩ : ∃ T, TrS.tip K = T := ⟨_, rfl⟩
    obtain ⟨T2, hT2e⟩ : ∃ T2, TrS.tip K2 = T2 := ⟨_, rfl⟩
    obtain ⟨Pw, hPw⟩ : ∃ Pw, TrS.path K T = Pw := ⟨_, rfl⟩
    obtain ⟨h, hhe⟩ : ∃ h, TrS.height K T = h := ⟨_, rfl⟩
    obtain ⟨h2, hh2e⟩ : ∃ h2, TrS.height K2 T2 = h2 := ⟨_, rfl⟩
    obtain ⟨Wn, hWn⟩ : ∃ Wn, V2.map BlkD.name = Wn := ⟨_, rfl⟩
    rw [hN, hN2] at e1
    rw [hTe, hPw] at e2
    rw [hTe, hhe, hT2e, hh2e] at e3
    rw [hN] at e4 hNl e5
    have hNI := hide_ e5
    rw [hN2] at hN2l
    rw [hTe] at hTI0
    rw [hT2e] at hTI20
    have hTI := hide_ hTI0
    have hTI2 := hide_ hTI20
    have hP2 := hide_ e2
    have hkeep := hide_ e4
    have t5 : ((N2.length : Int) != (N.length : Int) + (Ln.length : Int)) = false := by rw [bne_eq_false_iff_eq]; omega
    have t6 : decide (h2 < h) = false := decide_eq_false (by omega)
    have hLl : Ln.length ≤ 400 := by omega
    have hN' := hide_ hN
    have hN2' := hide_ hN2
    have hTe' := hide_ hTe
    have hT2e' := hide_ hT2e
    have hPw' := hide_ hPw
    have hhe' := hide_ hhe
    have hh2e' := hide_ hh2e
    have hWn' := hide_ hWn
    have hR' := hide_ hR
    have hR2' := hide_ hR20
    have hst := hide_ hst0
    clear hge hlt hd0 hKV hgood hgood2 hR hR20 hst0 e1 e2 e3 e4 e5 hTI0 hTI20 hN hN2 hTe hT2e hPw hhe hh2e hWn
    have tokA : True := trivial
    go_wp2_with ((first
      | (go_at_call 13; have _t := tokA; refine (Names_any hT).mono ?_; rintro e w5 ⟨v6, rfl, o6, hx⟩; rw [hN'.out] at o6; have s6 := o6.safe hGl; replace hT := hT.ext hx; replace hO := hO.extend hx; replace hGl := (fun k hk => Nat.lt_of_lt_of_le (hGl k hk) hx.size); replace f5 := f5.ext hx; clear hx o6)
      | (go_at_call 12; have _t := tokA; refine (Tip_any hT).mono ?_; rintro e w5 ⟨rfl, hx⟩; rw [hTe'.out]; replace hT := hT.ext hx; replace hO := hO.extend hx; replace hGl := (fun k hk => Nat.lt_of_lt_of_le (hGl k hk) hx.size); replace f5 := f5.ext hx; replace s6 := s6.ext hx; clear hx)
      | (go_at_call 16; have _t := tokA; refine (Height_any (n := T) hT hTI.out).mono ?_; rintro e w5 ⟨rfl, hx⟩; rw [hhe'.out]; replace hT := hT.ext hx; replace hO := hO.extend hx; replace hGl := (fun k hk => Nat.lt_of_lt_of_le (hGl k hk) hx.size); replace f5 := f5.ext hx; replace s6 := s6.ext hx; clear hx)
      | (go_at_call 32; have _t := tokA; refine (Path_any (n := T) hT hTI.out).mono ?_; rintro e w5 ⟨v9, rfl, o9, hx⟩; rw [hPw'.out] at o9; have s9 := o9.safe hGl; replace hT := hT.ext hx; replace hO := hO.extend hx; replace hGl := (fun k hk => Nat.lt_of_lt_of_le (hGl k hk) hx.size); replace f5 := f5.ext hx; replace s6 := s6.ext hx; clear hx o9)
      | (go_at_call 17; have _t := tokA; refine (BCopy_any (b := d) (hu.out.ext TxR.stays hO.ext) hraw.out.2).mono ?_; rintro e w5 ⟨uc, rfl, oc, hx⟩; replace oc := oc.recs; replace hT := hT.ext hx; replace hO := hO.extend hx; replace hGl := (fun k hk => Nat.lt_of_lt_of_le (hGl k hk) hx.size); replace f5 := f5.ext hx; replace s6 := s6.ext hx; replace s9 := s9.ext hx; clear hx)
      | (go_at_call 18; have _t := tokA; refine (Add_r hR'.out hT hV16.out oc hraw.out.1).mono ?_; rintro e wB ⟨v10, G2, rfl, o10, hT2, hU⟩; replace o10 := o10.ints; replace s6 := s6.upd hU; replace s9 := s9.upd hU; have hg52 := upd_not hU hg5 f5.lt; replace f5 := f5.mod hU.mod hg5; replace hGl := upd_lt hU hGl; replace hT := hT2; replace hO := hO.upd hU; clear hT2 hU oc tokA hg5)
      | (go_at_call 13; refine (Names_any hT).mono ?_; rintro e w5 ⟨v49, rfl, o49, hx⟩; rw [hN2'.out] at o49; replace o49 := o49.ints; replace hT := hT.ext hx; replace hO := hO.extend hx; replace hGl := (fun k hk => Nat.lt_of_lt_of_le (hGl k hk) hx.size); replace f5 := f5.ext hx; replace s6 := s6.ext hx; replace s9 := s9.ext hx; replace o10 := o10.ext hx; clear hx)
      | (go_at_call 12; refine (Tip_any hT).mono ?_; rintro e w5 ⟨rfl, hx⟩; rw [hT2e'.out]; replace hT := hT.ext hx; replace hO := hO.extend hx; replace hGl := (fun k hk => Nat.lt_of_lt_of_le (hGl k hk) hx.size); replace f5 := f5.ext hx; replace s6 := s6.ext hx; replace s9 := s9.ext hx; clear hx)
      | (go_at_call 16; refine (Height_any (n := T2) hT hTI2.out).mono ?_; rintro e w5 ⟨rfl, hx⟩; rw [hh2e'.out]; replace hT := hT.ext hx; replace hO := hO.extend hx; replace hGl := (fun k hk => Nat.lt_of_lt_of_le (hGl k hk) hx.size); replace f5 := f5.ext hx; replace s6 := s6.ext hx; replace s9 := s9.ext hx; clear hx)
      | (go_at_call 32; refine (Path_any (n := T) hT hTI.out).mono ?_; rintro e w5 ⟨v68, rfl, o68, hx⟩; rw [hP2.out] at o68; replace o68 := o68.ints; replace hT := hT.ext hx; replace hO := hO.extend hx; replace hGl := (fun k hk => Nat.lt_of_lt_of_le (hGl k hk) hx.size); replace f5 := f5.ext hx; replace s6 := s6.ext hx; replace s9 := s9.ext hx; clear hx)
      | (go_at_call 20; refine (SameInts_any v68 v9 Pw _ o68 s9.sl).mono ?_; rintro e w5 ⟨rfl, hx⟩; replace hT := hT.ext hx; replace hO := hO.extend hx; replace hGl := (fun k hk => Nat.lt_of_lt_of_le (hGl k hk) hx.size); replace f5 := f5.ext hx; replace s6 := s6.ext hx; clear hx o68 s9)
      | (refine w_lidx0 Try.enBlk.elS _ _ k rfl rfl rfl rfl hl0.out hO.ext hd.out ?_; intro pa u hrow hu; have hone := blk_one (a := d.slot) (b := d.miner) (c := d.var) (d := d.parent) hu.one'; replace hrow := hide_ hrow; replace hu := hide_ hu)
      | ((with_reducible refine at_load ?_); refine w_pload Try.stBlk _ rfl rfl rfl hrow.out rfl ?_)
      | ((with_reducible refine at_alloc ?_); refine w_alloc Try.stBlk rfl rfl ?_; intro g5 w2 hg2 hx2 f5)
      | ((with_reducible refine at_store ?_); refine w_astore Try.stBlk _ _ (us := bRow d u) rfl rfl rfl rfl rfl f5 rfl rfl hone ?_; intro w3 hm3 f3; replace f5 : Fs w3 g5 (bRow d u) := f3; replace hx2 := hm3.after hx2 (fun i hi => by subst hi; exact hg2); have hg5 : ¬ G g5 := (fun h => by have := hGl g5 h; omega); replace hT := hT.ext hx2; replace hO := hO.extend hx2; replace hGl := (fun k hk => Nat.lt_of_lt_of_le (hGl k hk) hx2.size); clear hm3 f3 hx2 hrow hg2)
      | ((with_reducible refine at_load ?_); refine w_aload Try.stBlk _ rfl rfl rfl f5 rfl ?_)
      | ((with_reducible refine at_bi ?_); (try refine w_yes _ _ _ rfl rfl rfl ?_); refine i_len _ rfl rfl (v := v49) rfl o49 ?_)
      | ((with_reducible refine at_bi ?_); (try refine w_yes _ _ _ rfl rfl rfl ?_); refine i_len _ rfl rfl (v := v10) rfl o10 ?_)
      | ((with_reducible refine at_bi ?_); (try refine w_yes _ _ _ rfl rfl rfl ?_); refine i_len _ rfl rfl (v := v6) rfl s6.sl ?_)
      | fail) <;> (try simp only [Act.put, List.setIfInBounds_toArray, List.set_cons_zero, List.set_cons_succ]))
    go_loopw [75] (fun i wx => ∃ m : Nat, i = .int .i64 m ∧ m ≤ N.length ∧ TrW G2 wx p K2 V2 ∧ Out W G2 wx ∧ (∀ x, G2 x → x < wx.heap.size) ∧ Fs wx g5 (bRow d u) ∧ Safe G2 wx v6 (i64s N)) (fun i _ => N.length - (RowKit.intOf i).toNat)
    case atStart => exact ⟨0, rfl, Nat.zero_le _, hT, hO, hGl, f5, s6⟩
    case round =>
      clear hT hO hGl f5 s6
      obtain ⟨m, rfl, hm, hT, hO, hGl, f5, s6⟩ := hrel
      by_cases hge : N.length ≤ m
      rotate_left
      · have hltm : m < N.length := by omega
        have t7 : decide (m < N.length) = true := by simpa using hltm
        obtain ⟨x, hx0⟩ : ∃ x, N[m] = x := ⟨_, rfl⟩
        have hxm := hx0 ▸ List.getElem_mem hltm
        have hxk := hide_ (hkeep.out x hxm)
        have hxI := hide_ (hNI.out x hxm)
        have hx0' := hide_ hx0
        have hltm' := hide_ hltm
        clear hge hx0 hxm
        go_wp2_with ((first
          | (go_at_call 30; refine (Has_any (n := x) hT hxI.out).mono ?_; rintro e w5 ⟨rfl, hx⟩; rw [hxk.out]; replace hT := hT.ext hx; replace hO := hO.extend hx; replace hGl := (fun k hk => Nat.lt_of_lt_of_le (hGl k hk) hx.size); replace f5 := f5.ext hx; replace s6 := s6.ext hx; clear hx)
          | ((with_reducible refine at_idx ?_); refine i_idx _ _ m rfl rfl rfl s6.sl rfl hltm'.out ?_; intro ad had; rw [hx0'.out] at had)
          | fail) <;> (try simp only [Act.put, List.setIfInBounds_toArray, List.set_cons_zero, List.set_cons_succ]))
        go_roundw
        case rel => exact ⟨m + 1, by go_num, hltm'.out, hT, hO, hGl, f5, s6⟩
        case measure => have := hltm'.out; simp [RowKit.intOf]; omega
      obtain rfl : m = N.length := by omega
      have t7 : decide (N.length < N.length) = false := by simp
      have tokB : True := trivial
      have tokC : True := trivial
      clear hge hm s6
      cases okv
      · go_wp2_with ((first
        | (go_at_call 13; have _t := tokB; refine (Names_any hT).mono ?_; rintro e w5 ⟨v14, rfl, o14, hx⟩; rw [hN2'.out] at o14; have s14 := o14.safe hGl; replace hT := hT.ext hx; replace hO := hO.extend hx; replace hGl := (fun k hk => Nat.lt_of_lt_of_le (hGl k hk) hx.size); replace f5 := f5.ext hx; clear hx o14 tokB)
        | (go_at_call 14; have _t := tokC; refine (Waiting_any hT).mono ?_; rintro e w5 ⟨v15, rfl, o15, hx⟩; rw [hWn'.out] at o15; have s15 := o15.safe hGl; replace hT := hT.ext hx; replace hO := hO.extend hx; replace hGl := (fun k hk => Nat.lt_of_lt_of_le (hGl k hk) hx.size); replace f5 := f5.ext hx; replace s14 := s14.ext hx; clear hx o15 tokC)
        | (go_at_call 17; refine (BCopy_any (b := d) (hu.out.ext TxR.stays hO.ext) hraw.out.2).mono ?_; rintro e w5 ⟨uc, rfl, oc, hx⟩; replace oc := oc.recs; replace hT := hT.ext hx; replace hO := hO.extend hx; replace hGl := (fun k hk => Nat.lt_of_lt_of_le (hGl k hk) hx.size); replace f5 := f5.ext hx; replace s14 := s14.ext hx; replace s15 := s15.ext hx; clear hx)
        | (go_at_call 18; refine (Add_r hR2'.out hT hV216.out oc hraw.out.1).mono ?_; rintro e wB ⟨v16, G3, rfl, o16, hT2, hU⟩; replace o16 := o16.ints; replace s14 := s14.upd hU; replace s15 := s15.upd hU; replace f5 := f5.mod hU.mod hg52; replace hGl := upd_lt hU hGl; replace hT := hT2; replace hO := hO.upd hU; clear hT2 hU oc hg52)
        | (go_at_call 13; refine (Names_any hT).mono ?_; rintro e w5 ⟨v109, rfl, o109, hx⟩; rw [hN2'.out] at o109; replace o109 := o109.ints; replace hT := hT.ext hx; replace hO := hO.extend hx; replace hGl := (fun k hk => Nat.lt_of_lt_of_le (hGl k hk) hx.size); replace f5 := f5.ext hx; replace s14 := s14.ext hx; replace s15 := s15.ext hx; clear hx)
        | (go_at_call 14; refine (Waiting_any hT).mono ?_; rintro e w5 ⟨v115, rfl, o115, hx⟩; rw [hWn'.out] at o115; replace o115 := o115.ints; replace hT := hT.ext hx; replace hO := hO.extend hx; replace hGl := (fun k hk => Nat.lt_of_lt_of_le (hGl k hk) hx.size); replace f5 := f5.ext hx; replace s14 := s14.ext hx; replace s15 := s15.ext hx; clear hx)
        | (go_at_call 20; have j14 : Ints _ v14 N2 := s14.sl; (with_reducible refine (SameInts_any v109 v14 N2 _ o109 j14).mono ?_); rintro e w5 ⟨rfl, hx⟩; replace hT := hT.ext hx; replace hO := hO.extend hx; replace hGl := (fun k hk => Nat.lt_of_lt_of_le (hGl k hk) hx.size); replace f5 := f5.ext hx; replace s14 := s14.ext hx; replace s15 := s15.ext hx; clear hx)
        | (go_at_call 20; have j15 : Ints _ v15 Wn := s15.sl; (with_reducible refine (SameInts_any v115 v15 Wn _ o115 j15).mono ?_); rintro e w5 ⟨rfl, hx⟩; replace hT := hT.ext hx; replace hO := hO.extend hx; replace hGl := (fun k hk => Nat.lt_of_lt_of_le (hGl k hk) hx.size); replace f5 := f5.ext hx; clear hx)
        | ((with_reducible refine at_load ?_); refine w_aload Try.stBlk _ rfl rfl rfl f5 rfl ?_)
        | ((with_reducible refine at_bi ?_); (try refine w_yes _ _ _ rfl rfl rfl ?_); refine i_len _ rfl rfl (v := v16) rfl o16 ?_; rw [show (([] : List Int).length : Int) = 0 from rfl])
        | fail) <;> (try simp only [Act.put, List.setIfInBounds_toArray, List.set_cons_zero, List.set_cons_succ]))
        go_roundw
        case rel => exact ⟨k + 1, G3, by go_num, hlt'.out, by rw [hst.out]; exact hT, hO, hGl⟩
        case measure => have := hlt'.out; simp [RowKit.intOf]; omega
      · go_wp2_with ((first
        | (go_at_call 13; have _t := tokB; refine (Names_any hT).mono ?_; rintro e w5 ⟨v14, rfl, o14, hx⟩; rw [hN2'.out] at o14; have s14 := o14.safe hGl; replace hT := hT.ext hx; replace hO := hO.extend hx; replace hGl := (fun k hk => Nat.lt_of_lt_of_le (hGl k hk) hx.size); replace f5 := f5.ext hx; clear hx o14 tokB)
        | (go_at_call 14; have _t := tokC; refine (Waiting_any hT).mono ?_; rintro e w5 ⟨v15, rfl, o15, hx⟩; rw [hWn'.out] at o15; have s15 := o15.safe hGl; replace hT := hT.ext hx; replace hO := hO.extend hx; replace hGl := (fun k hk => Nat.lt_of_lt_of_le (hGl k hk) hx.size); replace f5 := f5.ext hx; replace s14 := s14.ext hx; clear hx o15 tokC)
        | (go_at_call 17; refine (BCopy_any (b := d) (hu.out.ext TxR.stays hO.ext) hraw.out.2).mono ?_; rintro e w5 ⟨uc, rfl, oc, hx⟩; replace oc := oc.recs; replace hT := hT.ext hx; replace hO := hO.extend hx; replace hGl := (fun k hk => Nat.lt_of_lt_of_le (hGl k hk) hx.size); replace f5 := f5.ext hx; replace s14 := s14.ext hx; replace s15 := s15.ext hx; clear hx)
        | (go_at_call 18; refine (Add_r hR2'.out hT hV216.out oc hraw.out.1).mono ?_; rintro e wB ⟨v16, G3, rfl, o16, hT2, hU⟩; replace o16 := o16.ints; replace s14 := s14.upd hU; replace s15 := s15.upd hU; replace f5 := f5.mod hU.mod hg52; replace hGl := upd_lt hU hGl; replace hT := hT2; replace hO := hO.upd hU; clear hT2 hU oc hg52)
        | (go_at_call 13; refine (Names_any hT).mono ?_; rintro e w5 ⟨v109, rfl, o109, hx⟩; rw [hN2'.out] at o109; replace o109 := o109.ints; replace hT := hT.ext hx; replace hO := hO.extend hx; replace hGl := (fun k hk => Nat.lt_of_lt_of_le (hGl k hk) hx.size); replace f5 := f5.ext hx; replace s14 := s14.ext hx; replace s15 := s15.ext hx; clear hx)
        | (go_at_call 14; refine (Waiting_any hT).mono ?_; rintro e w5 ⟨v115, rfl, o115, hx⟩; rw [hWn'.out] at o115; replace o115 := o115.ints; replace hT := hT.ext hx; replace hO := hO.extend hx; replace hGl := (fun k hk => Nat.lt_of_lt_of_le (hGl k hk) hx.size); replace f5 := f5.ext hx; replace s14 := s14.ext hx; replace s15 := s15.ext hx; clear hx)
        | (go_at_call 20; have j14 : Ints _ v14 N2 := s14.sl; (with_reducible refine (SameInts_any v109 v14 N2 _ o109 j14).mono ?_); rintro e w5 ⟨rfl, hx⟩; replace hT := hT.ext hx; replace hO := hO.extend hx; replace hGl := (fun k hk => Nat.lt_of_lt_of_le (hGl k hk) hx.size); replace f5 := f5.ext hx; replace s14 := s14.ext hx; replace s15 := s15.ext hx; clear hx)
        | (go_at_call 20; have j15 : Ints _ v15 Wn := s15.sl; (with_reducible refine (SameInts_any v115 v15 Wn _ o115 j15).mono ?_); rintro e w5 ⟨rfl, hx⟩; replace hT := hT.ext hx; replace hO := hO.extend hx; replace hGl := (fun k hk => Nat.lt_of_lt_of_le (hGl k hk) hx.size); replace f5 := f5.ext hx; clear hx)
        | ((with_reducible refine at_load ?_); refine w_aload Try.stBlk _ rfl rfl rfl f5 rfl ?_)
        | ((with_reducible refine at_bi ?_); (try refine w_yes _ _ _ rfl rfl rfl ?_); refine i_len _ rfl rfl (v := v16) rfl o16 ?_; rw [show (([] : List Int).length : Int) = 0 from rfl])
        | fail) <;> (try simp only [Act.put, List.setIfInBounds_toArray, List.set_cons_zero, List.set_cons_succ]))
        go_roundw
        case rel => exact ⟨k + 1, G3, by go_num, hlt'.out, by rw [hst.out]; exact hT, hO, hGl⟩
        case measure => have := hlt'.out; simp [RowKit.intOf]; omega

set_option maxRecDepth 100000 in
theorem treeGrows_lifted (os : Os) (started : os.Started) (H : Type) (enc : TypeId × Value → H) :
    ReturnsInHanded {} Try.checked os 9 .any (Rows.treeGrowsSpec.pre6 enc Try.prog Try.f9 Rows.treeGrowsRow.domain false) (Rows.treeGrowsSpec.post enc Try.prog Try.f9 false true false false) := by
  refine law_lifted (s := Rows.treeGrowsSpec) (conds := Rows.treeGrowsRow.domain) Try.func9 (by kernel_rfl) rfl (fun H ds h => by
      rw [show Try.f9.params.size = 1 from rfl] at h
      match ds, h with
      | [d0], _ => rfl) rfl rfl (by decide +kernel) os started H enc
    (ChangeSpec.witness6 (enc := enc) (C := Try.checked) false ⟨#[], #[.slice none 0 0], []⟩ 8 (by kernel_rfl) (by kernel_rfl) (by kernel_rfl) (by kernel_rfl)) ?_
  intro W base args ds p hval hA hsz _
  have hp : Try.f9.params.toList = [29] := rfl
  rw [hp] at hA hsz
  obtain ⟨v0, d0, rfl, rfl, h0⟩ := trodAll_one hA
  obtain ⟨l0, k0⟩ := arg_Blks hsz (j := 0) rfl rfl (hval 0 29 v0 rfl rfl) h0
  exact treeGrows_law v0 l0 W k0

theorem treeGrows_holds : Rows.TreeGrowsSaid :=
  OpenClaim.holds_of_wide 9 Try.f9 rfl rfl rfl rfl rfl rfl rfl ⟨rfl, rfl, rfl, rfl, rfl⟩ rfl rfl rfl rfl rfl (by kernel_rfl) Try.func9 (by kernel_rfl)
    (of_decide_eq_true (by kernel_rfl)) (by unfold Func.isWrapper; first | (rw [if_pos (by decide +kernel)]; kernel_rfl) | (rw [if_neg (by decide +kernel)]; exact ⟨rfl, rfl⟩))
    (fun os started H enc _ => treeGrows_lifted os started H enc)
#print axioms treeGrows_holds

end Go.Proofs.Ytabelhoncmnpgaa
