/- The statement TreeCommon: what two have in common is on both ways, and the next ones on them are unlike. No condition. -/
import Derived.Test.YtabelhoncmnpgaaTLm
namespace Go.Proofs.Ytabelhoncmnpgaa
set_option maxRecDepth 100000
open Go.RowKit Go.ChangeShapes Go.WideShapes Go.ChangeAt

set_option maxRecDepth 100000 in
set_option maxHeartbeats 6400000 in
theorem treeCommon_law (v0 : Value) (l : List BlkD) (a b : Int) (W : World) (hl00 : Recs 5 BlkL W v0 l) (ha : I64 a) (hb : I64 b) : Calls Try.prog 8 #[v0, .int .i64 a, .int .i64 b] W fun e w' => e = .returned (.bool true) ∧ Ext W w' := by
  refine calls_keep ?_
  have hl0 := hide_ hl00
  have hmax := hl00.len_le
  unfold maxLen at hmax
  have hraws := hide_ (fun k d (h : l[k]? = some d) => blks_at hl00 h)
  clear hl00
  by_cases hbig : 60 < l.length
  · have t1 : decide ((60 : Int) < (l.length : Int)) = true := decide_eq_true (by omega)
    go_enter Try.func8, Try.ntmps8
    go_wp2_with ((first
      | (go_at_call 11; refine (treeAlive_any _).mono ?_; rintro e w2 ⟨rfl, hX⟩)
      | ((with_reducible refine at_bi ?_); refine w_rlen Try.enBlk.elS _ rfl rfl rfl (hl0.out.ext BlkL.stays hX) ?_)
      | fail) <;> (try simp only [Act.put, List.setIfInBounds_toArray, List.set_cons_zero, List.set_cons_succ]))
    go_ret
    exact Keep.intro ⟨rfl, hX⟩
  have t1 : decide ((60 : Int) < (l.length : Int)) = false := decide_eq_false (by omega)
  go_enter Try.func8, Try.ntmps8
  go_wp2_with ((first
    | (go_at_call 10; refine (New_any (w := _)).mono ?_; rintro e w1 ⟨p, G, rfl, hT, hx, hG⟩; have hO : Out W G w1 := ⟨hX.trans hx, fun k hk => Nat.le_trans hX.size (hG k hk)⟩; clear hX hx hG)
    | (go_at_call 11; refine (treeAlive_any _).mono ?_; rintro e w2 ⟨rfl, hX⟩)
    | ((with_reducible refine at_bi ?_); have _t := hX; refine w_rlen Try.enBlk.elS _ rfl rfl rfl (hl0.out.ext BlkL.stays hX) ?_)
    | ((with_reducible refine at_bi ?_); refine w_rlen Try.enBlk.elS _ rfl rfl rfl (hl0.out.ext BlkL.stays hO.ext) ?_)
    | fail) <;> (try simp only [Act.put, List.setIfInBounds_toArray, List.set_cons_zero, List.set_cons_succ]))
  go_loopw [23] (fun i wr => ∃ (k : Nat) (G : Nat → Prop), i = .int .i64 k ∧ k ≤ l.length ∧ TrW G wr p (st l k).known (st l k).wait ∧ Out W G wr) (fun i _ => l.length - (RowKit.intOf i).toNat)
  case atStart => exact ⟨0, G, rfl, Nat.zero_le _, by rw [st_zero]; exact hT, hO⟩
  case round =>
    clear hT hO
    obtain ⟨k, G, rfl, hk, hT, hO⟩ := hrel
    by_cases hge : l.length ≤ k
    rotate_left
    · have hlt : k < l.length := by omega
      have t2 : decide (k < l.length) = true := by simpa using hlt
      obtain ⟨d, hd0⟩ : ∃ d, l[k]? = some d := ⟨_, List.getElem?_eq_getElem hlt⟩
      have hraw := hide_ (hraws.out k d hd0)
      have hst := hide_ (st_succ hd0)
      have hV16 := hide_ (st_good l k).few
      have hlt' := hide_ hlt
      have hd := hide_ hd0
      clear hge hlt hd0
      go_wp2_with ((first
        | (go_at_call 17; refine (BCopy_any (b := d) hu hraw.out.2).mono ?_; rintro e w5 ⟨u', rfl, o9, hx⟩; replace o9 := o9.recs; replace hT := hT.ext hx; replace hO := hO.extend hx; clear hx f2 hu)
        | (go_at_call 18; refine (Add_any (b := d) (u := u') hT hV16.out o9 hraw.out.1).mono ?_; rintro e w6 ⟨v', G', rfl, _, hT', hU⟩; rw [← hst.out] at hT'; replace hT := hT'; replace hO := hO.upd hU; clear hT' hU o9)
        | (refine w_lidx Try.enBlk.elS _ _ k rfl rfl rfl rfl hl0.out hO.ext hd.out ?_; intro pa u hrow hu; have hone := blk_one (a := d.slot) (b := d.miner) (c := d.var) (d := d.parent) hu.one'; replace hrow := hide_ hrow)
        | ((with_reducible refine at_load ?_); refine w_pload Try.stBlk _ rfl rfl rfl hrow.out rfl ?_)
        | ((with_reducible refine at_alloc ?_); refine w_alloc Try.stBlk rfl rfl ?_; intro g2 w2 hg2 hx2 f2)
        | ((with_reducible refine at_store ?_); refine w_astore Try.stBlk _ _ (us := bRow d u) rfl rfl rfl rfl rfl f2 rfl rfl hone ?_; intro w3 hm3 f3; replace f2 : Fs w3 g2 (bRow d u) := f3; replace hx2 := hm3.after hx2 (fun i hi => by subst hi; exact hg2); replace hT := hT.ext hx2; replace hO := hO.extend hx2; replace hu := hu.ext TxR.stays hx2; clear hm3 f3 hx2 hrow)
        | ((with_reducible refine at_load ?_); refine w_aload Try.stBlk _ rfl rfl rfl f2 rfl ?_)
        | fail) <;> (try simp only [Act.put, List.setIfInBounds_toArray, List.set_cons_zero, List.set_cons_succ]))
      go_roundw
      case rel => exact ⟨k + 1, G', by go_num, hlt'.out, hT, hO⟩
      case measure => have := hlt'.out; simp [RowKit.intOf]; omega
    obtain rfl : k = l.length := by omega
    have t2 : decide (l.length < l.length) = false := by simp
    have hgood := st_good l l.length
    obtain ⟨S, hS⟩ : ∃ S, st l l.length = S := ⟨_, rfl⟩
    rw [hS] at hT hgood
    have uq := hgood.uq
    have hstood := hgood.stood
    obtain ⟨K, hK⟩ : ∃ K, S.known = K := ⟨_, rfl⟩
    obtain ⟨V, hV⟩ : ∃ V, S.wait = V := ⟨_, rfl⟩
    rw [hK] at hT uq hstood
    rw [hV] at hT
    clear hge hS hgood hK hV hk
    obtain ⟨la, hla⟩ : ∃ la, TrS.path K a = la := ⟨_, rfl⟩
    obtain ⟨lb, hlb⟩ : ∃ lb, TrS.path K b = lb := ⟨_, rfl⟩
    obtain ⟨M, hM⟩ : ∃ M, TrS.lcp la lb = M := ⟨_, rfl⟩
    obtain ⟨C, hC⟩ : ∃ C, TrS.common K a b = C := ⟨_, rfl⟩
    have hA4 : la.length ≤ 4096 := by rw [← hla]; exact path_len K a
    have hB4 : lb.length ≤ 4096 := by rw [← hlb]; exact path_len K b
    obtain ⟨p1, p2⟩ := TrS.lcp_pre la lb
    have hnx := TrS.lcp_next la lb
    obtain ⟨ch1, ch2⟩ := common_high (a := a) (b := b) uq hstood
    rw [hla, hlb, hC, hM] at ch1
    rw [hC] at ch2
    rw [hM] at p1 p2 hnx
    have hCI : I64 C := by
      rcases ch2 with h | ⟨c, hc, hcn⟩
      · rw [h]; exact ⟨by omega, by omega⟩
      · rw [← hcn]; exact (uq.right c hc).i64
    have hm1 := p1.length_le
    have hm2 := p2.length_le
    have hne := common_ne (K := K) (a := a) (b := b)
    rw [hC] at hne
    obtain ⟨qa, hqa⟩ : ∃ qa, TrS.has K a = qa := ⟨_, rfl⟩
    obtain ⟨qb, hqb⟩ : ∃ qb, TrS.has K b = qb := ⟨_, rfl⟩
    have hCm1 := hide_ (fun w' (h : Ext wr w') => hC ▸ Common_any (hT.ext h) ha hb)
    have hCm2 := hide_ (fun w' (h : Ext wr w') => hC ▸ common_comm (K := K) (a := a) (b := b) ▸ Common_any (hT.ext h) hb ha)
    have hC30 := (fun (hq : qa = true) => hide_ (fun w' (h : Ext wr w') => common_self uq (hqa.trans hq) ▸ Common_any (hT.ext h) ha ha))
    have hHa := hide_ (fun w' (h : Ext wr w') => hqa ▸ Has_any (n := a) (hT.ext h) ha)
    have hHb := hide_ (fun w' (h : Ext wr w') => hqb ▸ Has_any (n := b) (hT.ext h) hb)
    have hPa := hide_ (fun w' (h : Ext wr w') => hla ▸ Path_any (hT.ext h) ha)
    have hPb := hide_ (fun w' (h : Ext wr w') => hlb ▸ Path_any (hT.ext h) hb)
    have hHt := hide_ (fun w' (h : Ext wr w') => ch1 ▸ Height_any (hT.ext h) hCI)
    have hX := Ext.refl wr
    replace hO := hide_ hO.ext
    have hp1 := hide_ p1
    have hp2 := hide_ p2
    have hnx' := hide_ hnx
    have hne2 : (C != 0) = true → qa = true ∧ qb = true := fun h => by
      obtain ⟨h1, h2⟩ := hne (by simpa using h)
      exact ⟨hqa ▸ h1, hqb ▸ h2⟩
    clear hne hqa hqb hCI ch1 ch2 hM hla hlb hC uq hstood p1 p2 hnx hT
    cases c1 : (C != 0)
    rotate_left
    · obtain ⟨rfl, rfl⟩ := hne2 c1
      have hCm3 := hC30 rfl
      clear hne2 hC30
      go_wp2_with (first
        | (go_at_call 36; (with_reducible refine (hCm1.out _ hX).mono ?_); rintro e w5 ⟨rfl, hx⟩; replace hX := hX.trans hx; clear hx)
        | (go_at_call 36; (with_reducible refine (hCm2.out _ hX).mono ?_); rintro e w5 ⟨rfl, hx⟩; replace hX := hX.trans hx; clear hx)
        | (go_at_call 36; (with_reducible refine (hCm3.out _ hX).mono ?_); rintro e w5 ⟨rfl, hx⟩; replace hX := hX.trans hx; clear hx)
        | (go_at_call 30; (with_reducible refine (hHa.out _ hX).mono ?_); rintro e w5 ⟨rfl, hx⟩; replace hX := hX.trans hx; clear hx)
        | (go_at_call 30; (with_reducible refine (hHb.out _ hX).mono ?_); rintro e w5 ⟨rfl, hx⟩; replace hX := hX.trans hx; clear hx)
        | (go_at_call 32; (with_reducible refine (hPa.out _ hX).mono ?_); rintro e w5 ⟨v11, rfl, o11, hx⟩; replace o11 := o11.ints; replace hX := hX.trans hx; clear hx)
        | (go_at_call 32; (with_reducible refine (hPb.out _ hX).mono ?_); rintro e w5 ⟨v12, rfl, o12, hx⟩; replace o12 := o12.ints; replace o11 := o11.ext hx; replace hX := hX.trans hx; clear hx)
        | (go_at_call 16; (with_reducible refine (hHt.out _ hX).mono ?_); rintro e w5 ⟨rfl, hx⟩; replace o12 := o12.ext hx; replace o11 := o11.ext hx; replace hX := hX.trans hx; clear hx)
        | fail)
      go_loopw [14] (fun i wx => ∃ k : Nat, i = .int .i64 k ∧ k ≤ M.length ∧ Ext wr wx ∧ Ints wx v11 la ∧ Ints wx v12 lb) (fun i _ => M.length - (RowKit.intOf i).toNat)
      case atStart => exact ⟨0, rfl, Nat.zero_le _, hX, o11, o12⟩
      case round =>
        clear hX o11 o12
        obtain ⟨k, rfl, hk, hX, o11, o12⟩ := hrel
        by_cases hge : M.length ≤ k
        rotate_left
        · have hlt : k < M.length := by omega
          have t2 : decide (k < M.length) = true := by simpa using hlt
          obtain ⟨x, hx0⟩ : ∃ x, M[k]? = some x := ⟨_, List.getElem?_eq_getElem hlt⟩
          have hxx := hide_ (show ∃ h : k < la.length, la[k] = x from List.getElem?_eq_some_iff.1 (by
            obtain ⟨s, hs⟩ := hp1.out
            rw [← hs, List.getElem?_append_left hlt]; exact hx0))
          have hyy := hide_ (show ∃ h : k < lb.length, lb[k] = x from List.getElem?_eq_some_iff.1 (by
            obtain ⟨s, hs⟩ := hp2.out
            rw [← hs, List.getElem?_append_left hlt]; exact hx0))
          have hlt' := hide_ hlt
          clear hge hlt hx0
          go_wp2
          refine wp_region_phx (by kernel_rfl) ?_; intro wd hxd; have j1 := o11.ext hxd; have j2 := o12.ext hxd
          refine Ph.rest 0 9 (by kernel_rfl) ?_
          refine LinL.step (s := (.val (v11))) [(11, none)] rfl (by kernel_rfl) (op_out 11 (v11) rfl (.inl rfl) rfl) ?_
          refine LinL.step (s := (.val (.int .i64 (k : Nat)))) [(14, none)] rfl (by kernel_rfl) (op_out 14 (.int .i64 (k : Nat)) rfl (.inl rfl) rfl) ?_
          refine LinL.step (s := (Sp.ptr (.int .i64 (x)))) [(84, some 1), (85, some 0)] rfl (by kernel_rfl) (op_runs rfl fun σ w' hx hg => rptri (ρ := σ.eval) (w := w') (.tmp 84) (.tmp 85) rfl hg.1 (j1.ext hx) k hg.2.1 hxx.out.choose hxx.out.choose_spec) ?_
          refine LinL.step (s := (.val (.int .i64 (x : Int)))) [(86, some 0)] rfl (by kernel_rfl) (op_runs rfl fun σ w' hx hg => ⟨_, runs_load (ρ := σ.eval) (w := w') (.tmp 86) rfl Try.underlying3 rfl hg.1, rfl⟩) ?_
          refine LinL.step (s := (.val (v12))) [(12, none)] rfl (by kernel_rfl) (op_out 12 (v12) rfl (.inl rfl) rfl) ?_
          refine LinL.step (s := (.val (.int .i64 (k : Nat)))) [(14, none)] rfl (by kernel_rfl) (op_out 14 (.int .i64 (k : Nat)) rfl (.inl rfl) rfl) ?_
          refine LinL.step (s := (Sp.ptr (.int .i64 (x)))) [(88, some 1), (89, some 0)] rfl (by kernel_rfl) (op_runs rfl fun σ w' hx hg => rptri (ρ := σ.eval) (w := w') (.tmp 88) (.tmp 89) rfl hg.1 (j2.ext hx) k hg.2.1 hyy.out.choose hyy.out.choose_spec) ?_
          refine LinL.step (s := (.val (.int .i64 (x : Int)))) [(90, some 0)] rfl (by kernel_rfl) (op_runs rfl fun σ w' hx hg => ⟨_, runs_load (ρ := σ.eval) (w := w') (.tmp 90) rfl Try.underlying3 rfl hg.1, rfl⟩) ?_
          refine LinL.step (s := (.val (.bool false))) [(87, some 4), (91, some 0)] rfl (by kernel_rfl) (op_runs rfl fun σ w' hx hg => ⟨(.bool false), by have h87 : σ.tmps.getD 87 undef = .int .i64 (x : Int) := hg.1; have h91 : σ.tmps.getD 91 undef = .int .i64 (x : Int) := hg.2.1; unfold Runs execOp; simp [Act.eval, h87, h91, go_sem], rfl⟩) ?_
          intro wN hxN
          simp only [Fin', Sp.ptr, List.reverse_cons, List.reverse_nil, List.nil_append, List.cons_append, List.drop_zero, List.take_succ_cons, List.take_zero]
          intro q86 hq86 q90 hq90
          simp only [Act.put, List.setIfInBounds_toArray, List.set_cons_zero, List.set_cons_succ]
          replace o11 := o11.ext (hxd.trans hxN)
          replace o12 := o12.ext (hxd.trans hxN)
          replace hX := hX.trans (hxd.trans hxN)
          clear hxd hxN
          go_wp2
          go_roundw
          case rel => exact ⟨k + 1, by go_num, hlt'.out, hX, o11, o12⟩
          case measure => have := hlt'.out; simp [RowKit.intOf]; omega
        obtain rfl : k = M.length := by omega
        have t2 : decide (M.length < M.length) = false := by simp
        clear hge hk
        by_cases cA0 : la.length ≤ M.length
        · have cA := hide_ cA0
          clear cA0
          go_wp2
          refine wp_region_phx (by kernel_rfl) ?_; intro wd hxd; have j1 := o11.ext hxd; have j2 := o12.ext hxd
          refine Ph.rest 0 22 (by kernel_rfl) ?_
          refine LinL.step (s := (.val (.int .i64 (M.length : Nat)))) [(13, none)] rfl (by kernel_rfl) (op_out 13 (.int .i64 (M.length : Nat)) rfl (.inl rfl) rfl) ?_
          refine LinL.step (s := (.val (v11))) [(11, none)] rfl (by kernel_rfl) (op_out 11 (v11) rfl (.inl rfl) rfl) ?_
          refine LinL.step (s := (.val (.int .i64 (la.length : Nat)))) [(94, some 0)] rfl (by kernel_rfl) (op_runs rfl fun σ w' hx hg => ⟨_, runs_leni (ρ := σ.eval) (w := w') (.tmp 94) rfl hg.1 (j1.ext hx), rfl⟩) ?_
          refine LinL.step (s := (.val (.bool true))) [(93, some 2), (95, some 0)] rfl (by kernel_rfl) (op_runs rfl fun σ w' hx hg => ⟨(.bool true), by have h93 : σ.tmps.getD 93 undef = .int .i64 (M.length : Nat) := hg.1; have h95 : σ.tmps.getD 95 undef = .int .i64 (la.length : Nat) := hg.2.1; unfold Runs execOp; simp [Act.eval, h93, h95, go_sem, cA.out], rfl⟩) ?_
          refine LinL.step (s := (.val (.bool true))) [(96, some 0)] rfl (by kernel_rfl) (op_copy 96 0 (.val (.bool true)) rfl (.inl rfl) rfl) ?_
          refine LinL.step (s := .val undef) [(13, none), (97, some 0)] rfl (by kernel_rfl) (op_no (reads := [(13, none)]) 4 97 0 false rfl rfl rfl) ?_
          refine LinL.step (s := .val undef) [(12, none), (97, some 1)] rfl (by kernel_rfl) (op_no (reads := [(12, none)]) 4 97 1 false rfl rfl rfl) ?_
          refine LinL.step (s := .val undef) [(99, some 0), (97, some 2)] rfl (by kernel_rfl) (op_no (reads := [(99, some 0)]) 4 97 2 false rfl rfl rfl) ?_
          refine LinL.step (s := .val undef) [(98, some 2), (100, some 0), (97, some 3)] rfl (by kernel_rfl) (op_no (reads := [(98, some 2), (100, some 0)]) 4 97 3 false rfl rfl rfl) ?_
          refine LinL.step (s := (.val (.bool true))) [(97, some 4), (101, some 0)] rfl (by kernel_rfl) (op_runs rfl fun σ w' hx hg => ⟨_, runs_pick_t (ρ := σ.eval) (w := w') (.tmp 97) (.const (.bool true)) (.tmp 101) rfl hg.1 rfl, rfl⟩) ?_
          refine LinL.step (s := (.val (.bool true))) [(102, some 0)] rfl (by kernel_rfl) (op_copy 102 0 (.val (.bool true)) rfl (.inl rfl) rfl) ?_
          refine LinL.step (s := .val undef) [(11, none), (103, some 0)] rfl (by kernel_rfl) (op_no (reads := [(11, none)]) 10 103 0 false rfl rfl rfl) ?_
          refine LinL.step (s := .val undef) [(13, none), (103, some 1)] rfl (by kernel_rfl) (op_no (reads := [(13, none)]) 10 103 1 false rfl rfl rfl) ?_
          refine LinL.step (s := .val undef) [(104, some 1), (105, some 0), (103, some 2)] rfl (by kernel_rfl) (op_no (reads := [(104, some 1), (105, some 0)]) 10 103 2 false rfl rfl rfl) ?_
          refine LinL.step (s := .val undef) [(106, some 0), (103, some 3)] rfl (by kernel_rfl) (op_no (reads := [(106, some 0)]) 10 103 3 false rfl rfl rfl) ?_
          refine LinL.step (s := .val undef) [(12, none), (103, some 4)] rfl (by kernel_rfl) (op_no (reads := [(12, none)]) 10 103 4 false rfl rfl rfl) ?_
          refine LinL.step (s := .val undef) [(13, none), (103, some 5)] rfl (by kernel_rfl) (op_no (reads := [(13, none)]) 10 103 5 false rfl rfl rfl) ?_
          refine LinL.step (s := .val undef) [(108, some 1), (109, some 0), (103, some 6)] rfl (by kernel_rfl) (op_no (reads := [(108, some 1), (109, some 0)]) 10 103 6 false rfl rfl rfl) ?_
          refine LinL.step (s := .val undef) [(110, some 0), (103, some 7)] rfl (by kernel_rfl) (op_no (reads := [(110, some 0)]) 10 103 7 false rfl rfl rfl) ?_
          refine LinL.step (s := .val undef) [(107, some 4), (111, some 0), (103, some 8)] rfl (by kernel_rfl) (op_no (reads := [(107, some 4), (111, some 0)]) 10 103 8 false rfl rfl rfl) ?_
          refine LinL.step (s := (.val (.bool true))) [(103, some 9), (112, some 0)] rfl (by kernel_rfl) (op_runs rfl fun σ w' hx hg => ⟨_, runs_pick_t (ρ := σ.eval) (w := w') (.tmp 103) (.const (.bool true)) (.tmp 112) rfl hg.1 rfl, rfl⟩) ?_
          refine LinL.step (s := (.val (.bool true))) [(113, some 0)] rfl (by kernel_rfl) (op_copy 113 0 (.val (.bool true)) rfl (.inr rfl) rfl) ?_
          intro wN hxN
          simp only [Fin', List.reverse_cons, List.reverse_nil, List.nil_append, List.cons_append, List.drop_zero, List.take_succ_cons, List.take_zero]
          simp only [Act.put, List.setIfInBounds_toArray, List.set_cons_zero, List.set_cons_succ]
          go_wp2
          go_ret
          exact Keep.intro ⟨rfl, hO.out.trans (hX.trans (hxd.trans hxN))⟩
        by_cases cB0 : lb.length ≤ M.length
        · have cA := hide_ cA0
          have cB := hide_ cB0
          clear cA0 cB0
          go_wp2
          refine wp_region_phx (by kernel_rfl) ?_; intro wd hxd; have j1 := o11.ext hxd; have j2 := o12.ext hxd
          refine Ph.rest 0 22 (by kernel_rfl) ?_
          refine LinL.step (s := (.val (.int .i64 (M.length : Nat)))) [(13, none)] rfl (by kernel_rfl) (op_out 13 (.int .i64 (M.length : Nat)) rfl (.inl rfl) rfl) ?_
          refine LinL.step (s := (.val (v11))) [(11, none)] rfl (by kernel_rfl) (op_out 11 (v11) rfl (.inl rfl) rfl) ?_
          refine LinL.step (s := (.val (.int .i64 (la.length : Nat)))) [(94, some 0)] rfl (by kernel_rfl) (op_runs rfl fun σ w' hx hg => ⟨_, runs_leni (ρ := σ.eval) (w := w') (.tmp 94) rfl hg.1 (j1.ext hx), rfl⟩) ?_
          refine LinL.step (s := (.val (.bool false))) [(93, some 2), (95, some 0)] rfl (by kernel_rfl) (op_runs rfl fun σ w' hx hg => ⟨(.bool false), by have h93 : σ.tmps.getD 93 undef = .int .i64 (M.length : Nat) := hg.1; have h95 : σ.tmps.getD 95 undef = .int .i64 (la.length : Nat) := hg.2.1; unfold Runs execOp; simp [Act.eval, h93, h95, go_sem, cA.out], rfl⟩) ?_
          refine LinL.step (s := (.val (.bool false))) [(96, some 0)] rfl (by kernel_rfl) (op_copy 96 0 (.val (.bool false)) rfl (.inl rfl) rfl) ?_
          refine LinL.step (s := (.val (.int .i64 (M.length : Nat)))) [(13, none), (97, some 0)] rfl (by kernel_rfl) (op_yes (reads := [(13, none)]) 4 97 0 false rfl rfl rfl (op_out 13 (.int .i64 (M.length : Nat)) rfl (.inl rfl) rfl)) ?_
          refine LinL.step (s := (.val (v12))) [(12, none), (97, some 1)] rfl (by kernel_rfl) (op_yes (reads := [(12, none)]) 4 97 1 false rfl rfl rfl (op_out 12 (v12) rfl (.inl rfl) rfl)) ?_
          refine LinL.step (s := (.val (.int .i64 (lb.length : Nat)))) [(99, some 0), (97, some 2)] rfl (by kernel_rfl) (op_yes (reads := [(99, some 0)]) 4 97 2 false rfl rfl rfl (op_runs rfl fun σ w' hx hg => ⟨_, runs_leni (ρ := σ.eval) (w := w') (.tmp 99) rfl hg.1 (j2.ext hx), rfl⟩)) ?_
          refine LinL.step (s := (.val (.bool true))) [(98, some 2), (100, some 0), (97, some 3)] rfl (by kernel_rfl) (op_yes (reads := [(98, some 2), (100, some 0)]) 4 97 3 false rfl rfl rfl (op_runs rfl fun σ w' hx hg => ⟨(.bool true), by have h98 : σ.tmps.getD 98 undef = .int .i64 (M.length : Nat) := hg.1; have h100 : σ.tmps.getD 100 undef = .int .i64 (lb.length : Nat) := hg.2.1; unfold Runs execOp; simp [Act.eval, h98, h100, go_sem, cB.out], rfl⟩)) ?_
          refine LinL.step (s := (.val (.bool true))) [(97, some 4), (101, some 0)] rfl (by kernel_rfl) (op_runs rfl fun σ w' hx hg => ⟨_, runs_pick_f (ρ := σ.eval) (w := w') (.tmp 97) (.const (.bool true)) (.tmp 101) rfl hg.1 hg.2.1, rfl⟩) ?_
          refine LinL.step (s := (.val (.bool true))) [(102, some 0)] rfl (by kernel_rfl) (op_copy 102 0 (.val (.bool true)) rfl (.inl rfl) rfl) ?_
          refine LinL.step (s := .val undef) [(11, none), (103, some 0)] rfl (by kernel_rfl) (op_no (reads := [(11, none)]) 10 103 0 false rfl rfl rfl) ?_
          refine LinL.step (s := .val undef) [(13, none), (103, some 1)] rfl (by kernel_rfl) (op_no (reads := [(13, none)]) 10 103 1 false rfl rfl rfl) ?_
          refine LinL.step (s := .val undef) [(104, some 1), (105, some 0), (103, some 2)] rfl (by kernel_rfl) (op_no (reads := [(104, some 1), (105, some 0)]) 10 103 2 false rfl rfl rfl) ?_
          refine LinL.step (s := .val undef) [(106, some 0), (103, some 3)] rfl (by kernel_rfl) (op_no (reads := [(106, some 0)]) 10 103 3 false rfl rfl rfl) ?_
          refine LinL.step (s := .val undef) [(12, none), (103, some 4)] rfl (by kernel_rfl) (op_no (reads := [(12, none)]) 10 103 4 false rfl rfl rfl) ?_
          refine LinL.step (s := .val undef) [(13, none), (103, some 5)] rfl (by kernel_rfl) (op_no (reads := [(13, none)]) 10 103 5 false rfl rfl rfl) ?_
          refine LinL.step (s := .val undef) [(108, some 1), (109, some 0), (103, some 6)] rfl (by kernel_rfl) (op_no (reads := [(108, some 1), (109, some 0)]) 10 103 6 false rfl rfl rfl) ?_
          refine LinL.step (s := .val undef) [(110, some 0), (103, some 7)] rfl (by kernel_rfl) (op_no (reads := [(110, some 0)]) 10 103 7 false rfl rfl rfl) ?_
          refine LinL.step (s := .val undef) [(107, some 4), (111, some 0), (103, some 8)] rfl (by kernel_rfl) (op_no (reads := [(107, some 4), (111, some 0)]) 10 103 8 false rfl rfl rfl) ?_
          refine LinL.step (s := (.val (.bool true))) [(103, some 9), (112, some 0)] rfl (by kernel_rfl) (op_runs rfl fun σ w' hx hg => ⟨_, runs_pick_t (ρ := σ.eval) (w := w') (.tmp 103) (.const (.bool true)) (.tmp 112) rfl hg.1 rfl, rfl⟩) ?_
          refine LinL.step (s := (.val (.bool true))) [(113, some 0)] rfl (by kernel_rfl) (op_copy 113 0 (.val (.bool true)) rfl (.inr rfl) rfl) ?_
          intro wN hxN
          simp only [Fin', List.reverse_cons, List.reverse_nil, List.nil_append, List.cons_append, List.drop_zero, List.take_succ_cons, List.take_zero]
          simp only [Act.put, List.setIfInBounds_toArray, List.set_cons_zero, List.set_cons_succ]
          go_wp2
          go_ret
          exact Keep.intro ⟨rfl, hO.out.trans (hX.trans (hxd.trans hxN))⟩
        obtain ⟨x, hx0⟩ : ∃ x, la[M.length]? = some x := ⟨_, List.getElem?_eq_getElem (by omega)⟩
        obtain ⟨y, hy0⟩ : ∃ y, lb[M.length]? = some y := ⟨_, List.getElem?_eq_getElem (by omega)⟩
        have hc := hide_ (hnx'.out x y hx0 hy0)
        have hxx := hide_ (show ∃ h : M.length < la.length, la[M.length] = x from List.getElem?_eq_some_iff.1 hx0)
        have hyy := hide_ (show ∃ h : M.length < lb.length, lb[M.length] = y from List.getElem?_eq_some_iff.1 hy0)
        have cA := hide_ cA0
        have cB := hide_ cB0
        clear cA0 cB0 hx0 hy0
        go_wp2
        refine wp_region_phx (by kernel_rfl) ?_; intro wd hxd; have j1 := o11.ext hxd; have j2 := o12.ext hxd
        refine Ph.rest 0 22 (by kernel_rfl) ?_
        refine LinL.step (s := (.val (.int .i64 (M.length : Nat)))) [(13, none)] rfl (by kernel_rfl) (op_out 13 (.int .i64 (M.length : Nat)) rfl (.inl rfl) rfl) ?_
        refine LinL.step (s := (.val (v11))) [(11, none)] rfl (by kernel_rfl) (op_out 11 (v11) rfl (.inl rfl) rfl) ?_
        refine LinL.step (s := (.val (.int .i64 (la.length : Nat)))) [(94, some 0)] rfl (by kernel_rfl) (op_runs rfl fun σ w' hx hg => ⟨_, runs_leni (ρ := σ.eval) (w := w') (.tmp 94) rfl hg.1 (j1.ext hx), rfl⟩) ?_
        refine LinL.step (s := (.val (.bool false))) [(93, some 2), (95, some 0)] rfl (by kernel_rfl) (op_runs rfl fun σ w' hx hg => ⟨(.bool false), by have h93 : σ.tmps.getD 93 undef = .int .i64 (M.length : Nat) := hg.1; have h95 : σ.tmps.getD 95 undef = .int .i64 (la.length : Nat) := hg.2.1; unfold Runs execOp; simp [Act.eval, h93, h95, go_sem, cA.out], rfl⟩) ?_
        refine LinL.step (s := (.val (.bool false))) [(96, some 0)] rfl (by kernel_rfl) (op_copy 96 0 (.val (.bool false)) rfl (.inl rfl) rfl) ?_
        refine LinL.step (s := (.val (.int .i64 (M.length : Nat)))) [(13, none), (97, some 0)] rfl (by kernel_rfl) (op_yes (reads := [(13, none)]) 4 97 0 false rfl rfl rfl (op_out 13 (.int .i64 (M.length : Nat)) rfl (.inl rfl) rfl)) ?_
        refine LinL.step (s := (.val (v12))) [(12, none), (97, some 1)] rfl (by kernel_rfl) (op_yes (reads := [(12, none)]) 4 97 1 false rfl rfl rfl (op_out 12 (v12) rfl (.inl rfl) rfl)) ?_
        refine LinL.step (s := (.val (.int .i64 (lb.length : Nat)))) [(99, some 0), (97, some 2)] rfl (by kernel_rfl) (op_yes (reads := [(99, some 0)]) 4 97 2 false rfl rfl rfl (op_runs rfl fun σ w' hx hg => ⟨_, runs_leni (ρ := σ.eval) (w := w') (.tmp 99) rfl hg.1 (j2.ext hx), rfl⟩)) ?_
        refine LinL.step (s := (.val (.bool false))) [(98, some 2), (100, some 0), (97, some 3)] rfl (by kernel_rfl) (op_yes (reads := [(98, some 2), (100, some 0)]) 4 97 3 false rfl rfl rfl (op_runs rfl fun σ w' hx hg => ⟨(.bool false), by have h98 : σ.tmps.getD 98 undef = .int .i64 (M.length : Nat) := hg.1; have h100 : σ.tmps.getD 100 undef = .int .i64 (lb.length : Nat) := hg.2.1; unfold Runs execOp; simp [Act.eval, h98, h100, go_sem, cB.out], rfl⟩)) ?_
        refine LinL.step (s := (.val (.bool false))) [(97, some 4), (101, some 0)] rfl (by kernel_rfl) (op_runs rfl fun σ w' hx hg => ⟨_, runs_pick_f (ρ := σ.eval) (w := w') (.tmp 97) (.const (.bool true)) (.tmp 101) rfl hg.1 hg.2.1, rfl⟩) ?_
        refine LinL.step (s := (.val (.bool false))) [(102, some 0)] rfl (by kernel_rfl) (op_copy 102 0 (.val (.bool false)) rfl (.inl rfl) rfl) ?_
        refine LinL.step (s := (.val (v11))) [(11, none), (103, some 0)] rfl (by kernel_rfl) (op_yes (reads := [(11, none)]) 10 103 0 false rfl rfl rfl (op_out 11 (v11) rfl (.inl rfl) rfl)) ?_
        refine LinL.step (s := (.val (.int .i64 (M.length : Nat)))) [(13, none), (103, some 1)] rfl (by kernel_rfl) (op_yes (reads := [(13, none)]) 10 103 1 false rfl rfl rfl (op_out 13 (.int .i64 (M.length : Nat)) rfl (.inl rfl) rfl)) ?_
        refine LinL.step (s := (Sp.ptr (.int .i64 (x)))) [(104, some 1), (105, some 0), (103, some 2)] rfl (by kernel_rfl) (op_yes (reads := [(104, some 1), (105, some 0)]) 10 103 2 false rfl rfl rfl (op_runs rfl fun σ w' hx hg => rptri (ρ := σ.eval) (w := w') (.tmp 104) (.tmp 105) rfl hg.1 (j1.ext hx) M.length hg.2.1 hxx.out.choose hxx.out.choose_spec)) ?_
        refine LinL.step (s := (.val (.int .i64 (x : Int)))) [(106, some 0), (103, some 3)] rfl (by kernel_rfl) (op_yes (reads := [(106, some 0)]) 10 103 3 false rfl rfl rfl (op_runs rfl fun σ w' hx hg => ⟨_, runs_load (ρ := σ.eval) (w := w') (.tmp 106) rfl Try.underlying3 rfl hg.1, rfl⟩)) ?_
        refine LinL.step (s := (.val (v12))) [(12, none), (103, some 4)] rfl (by kernel_rfl) (op_yes (reads := [(12, none)]) 10 103 4 false rfl rfl rfl (op_out 12 (v12) rfl (.inl rfl) rfl)) ?_
        refine LinL.step (s := (.val (.int .i64 (M.length : Nat)))) [(13, none), (103, some 5)] rfl (by kernel_rfl) (op_yes (reads := [(13, none)]) 10 103 5 false rfl rfl rfl (op_out 13 (.int .i64 (M.length : Nat)) rfl (.inl rfl) rfl)) ?_
        refine LinL.step (s := (Sp.ptr (.int .i64 (y)))) [(108, some 1), (109, some 0), (103, some 6)] rfl (by kernel_rfl) (op_yes (reads := [(108, some 1), (109, some 0)]) 10 103 6 false rfl rfl rfl (op_runs rfl fun σ w' hx hg => rptri (ρ := σ.eval) (w := w') (.tmp 108) (.tmp 109) rfl hg.1 (j2.ext hx) M.length hg.2.1 hyy.out.choose hyy.out.choose_spec)) ?_
        refine LinL.step (s := (.val (.int .i64 (y : Int)))) [(110, some 0), (103, some 7)] rfl (by kernel_rfl) (op_yes (reads := [(110, some 0)]) 10 103 7 false rfl rfl rfl (op_runs rfl fun σ w' hx hg => ⟨_, runs_load (ρ := σ.eval) (w := w') (.tmp 110) rfl Try.underlying3 rfl hg.1, rfl⟩)) ?_
        refine LinL.step (s := (.val (.bool true))) [(107, some 4), (111, some 0), (103, some 8)] rfl (by kernel_rfl) (op_yes (reads := [(107, some 4), (111, some 0)]) 10 103 8 false rfl rfl rfl (op_runs rfl fun σ w' hx hg => ⟨(.bool true), by have h107 : σ.tmps.getD 107 undef = .int .i64 (x : Int) := hg.1; have h111 : σ.tmps.getD 111 undef = .int .i64 (y : Int) := hg.2.1; unfold Runs execOp; simp [Act.eval, h107, h111, go_sem, hc.out], rfl⟩)) ?_
        refine LinL.step (s := (.val (.bool true))) [(103, some 9), (112, some 0)] rfl (by kernel_rfl) (op_runs rfl fun σ w' hx hg => ⟨_, runs_pick_f (ρ := σ.eval) (w := w') (.tmp 103) (.const (.bool true)) (.tmp 112) rfl hg.1 hg.2.1, rfl⟩) ?_
        refine LinL.step (s := (.val (.bool true))) [(113, some 0)] rfl (by kernel_rfl) (op_copy 113 0 (.val (.bool true)) rfl (.inr rfl) rfl) ?_
        intro wN hxN
        simp only [Fin', Sp.ptr, List.reverse_cons, List.reverse_nil, List.nil_append, List.cons_append, List.drop_zero, List.take_succ_cons, List.take_zero]
        intro q106 hq106 q110 hq110
        simp only [Act.put, List.setIfInBounds_toArray, List.set_cons_zero, List.set_cons_succ]
        go_wp2
        go_ret
        exact Keep.intro ⟨rfl, hO.out.trans (hX.trans (hxd.trans hxN))⟩
    · clear hne2
      cases qa
      · clear hC30
        go_wp2_with (first
          | (go_at_call 36; (with_reducible refine (hCm1.out _ hX).mono ?_); rintro e w5 ⟨rfl, hx⟩; replace hX := hX.trans hx; clear hx)
          | (go_at_call 36; (with_reducible refine (hCm2.out _ hX).mono ?_); rintro e w5 ⟨rfl, hx⟩; replace hX := hX.trans hx; clear hx)
          | (go_at_call 30; (with_reducible refine (hHa.out _ hX).mono ?_); rintro e w5 ⟨rfl, hx⟩; replace hX := hX.trans hx; clear hx)
          | (go_at_call 32; (with_reducible refine (hPa.out _ hX).mono ?_); rintro e w5 ⟨v11, rfl, o11, hx⟩; replace o11 := o11.ints; replace hX := hX.trans hx; clear hx)
          | (go_at_call 32; (with_reducible refine (hPb.out _ hX).mono ?_); rintro e w5 ⟨v12, rfl, o12, hx⟩; replace o12 := o12.ints; replace o11 := o11.ext hx; replace hX := hX.trans hx; clear hx)
          | (go_at_call 16; (with_reducible refine (hHt.out _ hX).mono ?_); rintro e w5 ⟨rfl, hx⟩; replace o12 := o12.ext hx; replace o11 := o11.ext hx; replace hX := hX.trans hx; clear hx)
          | fail)
        go_loopw [14] (fun i wx => ∃ k : Nat, i = .int .i64 k ∧ k ≤ M.length ∧ Ext wr wx ∧ Ints wx v11 la ∧ Ints wx v12 lb) (fun i _ => M.length - (RowKit.intOf i).toNat)
        case atStart => exact ⟨0, rfl, Nat.zero_le _, hX, o11, o12⟩
        case round =>
          clear hX o11 o12
          obtain ⟨k, rfl, hk, hX, o11, o12⟩ := hrel
          by_cases hge : M.length ≤ k
          rotate_left
          · have hlt : k < M.length := by omega
            have t2 : decide (k < M.length) = true := by simpa using hlt
            obtain ⟨x, hx0⟩ : ∃ x, M[k]? = some x := ⟨_, List.getElem?_eq_getElem hlt⟩
            have hxx := hide_ (show ∃ h : k < la.length, la[k] = x from List.getElem?_eq_some_iff.1 (by
              obtain ⟨s, hs⟩ := hp1.out
              rw [← hs, List.getElem?_append_left hlt]; exact hx0))
            have hyy := hide_ (show ∃ h : k < lb.length, lb[k] = x from List.getElem?_eq_some_iff.1 (by
              obtain ⟨s, hs⟩ := hp2.out
              rw [← hs, List.getElem?_append_left hlt]; exact hx0))
            have hlt' := hide_ hlt
            clear hge hlt hx0
            go_wp2
            refine wp_region_phx (by kernel_rfl) ?_; intro wd hxd; have j1 := o11.ext hxd; have j2 := o12.ext hxd
            refine Ph.rest 0 9 (by kernel_rfl) ?_
            refine LinL.step (s := (.val (v11))) [(11, none)] rfl (by kernel_rfl) (op_out 11 (v11) rfl (.inl rfl) rfl) ?_
            refine LinL.step (s := (.val (.int .i64 (k : Nat)))) [(14, none)] rfl (by kernel_rfl) (op_out 14 (.int .i64 (k : Nat)) rfl (.inl rfl) rfl) ?_
            refine LinL.step (s := (Sp.ptr (.int .i64 (x)))) [(84, some 1), (85, some 0)] rfl (by kernel_rfl) (op_runs rfl fun σ w' hx hg => rptri (ρ := σ.eval) (w := w') (.tmp 84) (.tmp 85) rfl hg.1 (j1.ext hx) k hg.2.1 hxx.out.choose hxx.out.choose_spec) ?_
            refine LinL.step (s := (.val (.int .i64 (x : Int)))) [(86, some 0)] rfl (by kernel_rfl) (op_runs rfl fun σ w' hx hg => ⟨_, runs_load (ρ := σ.eval) (w := w') (.tmp 86) rfl Try.underlying3 rfl hg.1, rfl⟩) ?_
            refine LinL.step (s := (.val (v12))) [(12, none)] rfl (by kernel_rfl) (op_out 12 (v12) rfl (.inl rfl) rfl) ?_
            refine LinL.step (s := (.val (.int .i64 (k : Nat)))) [(14, none)] rfl (by kernel_rfl) (op_out 14 (.int .i64 (k : Nat)) rfl (.inl rfl) rfl) ?_
            refine LinL.step (s := (Sp.ptr (.int .i64 (x)))) [(88, some 1), (89, some 0)] rfl (by kernel_rfl) (op_runs rfl fun σ w' hx hg => rptri (ρ := σ.eval) (w := w') (.tmp 88) (.tmp 89) rfl hg.1 (j2.ext hx) k hg.2.1 hyy.out.choose hyy.out.choose_spec) ?_
            refine LinL.step (s := (.val (.int .i64 (x : Int)))) [(90, some 0)] rfl (by kernel_rfl) (op_runs rfl fun σ w' hx hg => ⟨_, runs_load (ρ := σ.eval) (w := w') (.tmp 90) rfl Try.underlying3 rfl hg.1, rfl⟩) ?_
            refine LinL.step (s := (.val (.bool false))) [(87, some 4), (91, some 0)] rfl (by kernel_rfl) (op_runs rfl fun σ w' hx hg => ⟨(.bool false), by have h87 : σ.tmps.getD 87 undef = .int .i64 (x : Int) := hg.1; have h91 : σ.tmps.getD 91 undef = .int .i64 (x : Int) := hg.2.1; unfold Runs execOp; simp [Act.eval, h87, h91, go_sem], rfl⟩) ?_
            intro wN hxN
            simp only [Fin', Sp.ptr, List.reverse_cons, List.reverse_nil, List.nil_append, List.cons_append, List.drop_zero, List.take_succ_cons, List.take_zero]
            intro q86 hq86 q90 hq90
            simp only [Act.put, List.setIfInBounds_toArray, List.set_cons_zero, List.set_cons_succ]
            replace o11 := o11.ext (hxd.trans hxN)
            replace o12 := o12.ext (hxd.trans hxN)
            replace hX := hX.trans (hxd.trans hxN)
            clear hxd hxN
            go_wp2
            go_roundw
            case rel => exact ⟨k + 1, by go_num, hlt'.out, hX, o11, o12⟩
            case measure => have := hlt'.out; simp [RowKit.intOf]; omega
          obtain rfl : k = M.length := by omega
          have t2 : decide (M.length < M.length) = false := by simp
          clear hge hk
          by_cases cA0 : la.length ≤ M.length
          · have cA := hide_ cA0
            clear cA0
            go_wp2
            refine wp_region_phx (by kernel_rfl) ?_; intro wd hxd; have j1 := o11.ext hxd; have j2 := o12.ext hxd
            refine Ph.rest 0 22 (by kernel_rfl) ?_
            refine LinL.step (s := (.val (.int .i64 (M.length : Nat)))) [(13, none)] rfl (by kernel_rfl) (op_out 13 (.int .i64 (M.length : Nat)) rfl (.inl rfl) rfl) ?_
            refine LinL.step (s := (.val (v11))) [(11, none)] rfl (by kernel_rfl) (op_out 11 (v11) rfl (.inl rfl) rfl) ?_
            refine LinL.step (s := (.val (.int .i64 (la.length : Nat)))) [(94, some 0)] rfl (by kernel_rfl) (op_runs rfl fun σ w' hx hg => ⟨_, runs_leni (ρ := σ.eval) (w := w') (.tmp 94) rfl hg.1 (j1.ext hx), rfl⟩) ?_
            refine LinL.step (s := (.val (.bool true))) [(93, some 2), (95, some 0)] rfl (by kernel_rfl) (op_runs rfl fun σ w' hx hg => ⟨(.bool true), by have h93 : σ.tmps.getD 93 undef = .int .i64 (M.length : Nat) := hg.1; have h95 : σ.tmps.getD 95 undef = .int .i64 (la.length : Nat) := hg.2.1; unfold Runs execOp; simp [Act.eval, h93, h95, go_sem, cA.out], rfl⟩) ?_
            refine LinL.step (s := (.val (.bool true))) [(96, some 0)] rfl (by kernel_rfl) (op_copy 96 0 (.val (.bool true)) rfl (.inl rfl) rfl) ?_
            refine LinL.step (s := .val undef) [(13, none), (97, some 0)] rfl (by kernel_rfl) (op_no (reads := [(13, none)]) 4 97 0 false rfl rfl rfl) ?_
            refine LinL.step (s := .val undef) [(12, none), (97, some 1)] rfl (by kernel_rfl) (op_no (reads := [(12, none)]) 4 97 1 false rfl rfl rfl) ?_
            refine LinL.step (s := .val undef) [(99, some 0), (97, some 2)] rfl (by kernel_rfl) (op_no (reads := [(99, some 0)]) 4 97 2 false rfl rfl rfl) ?_
            refine LinL.step (s := .val undef) [(98, some 2), (100, some 0), (97, some 3)] rfl (by kernel_rfl) (op_no (reads := [(98, some 2), (100, some 0)]) 4 97 3 false rfl rfl rfl) ?_
            refine LinL.step (s := (.val (.bool true))) [(97, some 4), (101, some 0)] rfl (by kernel_rfl) (op_runs rfl fun σ w' hx hg => ⟨_, runs_pick_t (ρ := σ.eval) (w := w') (.tmp 97) (.const (.bool true)) (.tmp 101) rfl hg.1 rfl, rfl⟩) ?_
            refine LinL.step (s := (.val (.bool true))) [(102, some 0)] rfl (by kernel_rfl) (op_copy 102 0 (.val (.bool true)) rfl (.inl rfl) rfl) ?_
            refine LinL.step (s := .val undef) [(11, none), (103, some 0)] rfl (by kernel_rfl) (op_no (reads := [(11, none)]) 10 103 0 false rfl rfl rfl) ?_
            refine LinL.step (s := .val undef) [(13, none), (103, some 1)] rfl (by kernel_rfl) (op_no (reads := [(13, none)]) 10 103 1 false rfl rfl rfl) ?_
            refine LinL.step (s := .val undef) [(104, some 1), (105, some 0), (103, some 2)] rfl (by kernel_rfl) (op_no (reads := [(104, some 1), (105, some 0)]) 10 103 2 false rfl rfl rfl) ?_
            refine LinL.step (s := .val undef) [(106, some 0), (103, some 3)] rfl (by kernel_rfl) (op_no (reads := [(106, some 0)]) 10 103 3 false rfl rfl rfl) ?_
            refine LinL.step (s := .val undef) [(12, none), (103, some 4)] rfl (by kernel_rfl) (op_no (reads := [(12, none)]) 10 103 4 false rfl rfl rfl) ?_
            refine LinL.step (s := .val undef) [(13, none), (103, some 5)] rfl (by kernel_rfl) (op_no (reads := [(13, none)]) 10 103 5 false rfl rfl rfl) ?_
            refine LinL.step (s := .val undef) [(108, some 1), (109, some 0), (103, some 6)] rfl (by kernel_rfl) (op_no (reads := [(108, some 1), (109, some 0)]) 10 103 6 false rfl rfl rfl) ?_
            refine LinL.step (s := .val undef) [(110, some 0), (103, some 7)] rfl (by kernel_rfl) (op_no (reads := [(110, some 0)]) 10 103 7 false rfl rfl rfl) ?_
            refine LinL.step (s := .val undef) [(107, some 4), (111, some 0), (103, some 8)] rfl (by kernel_rfl) (op_no (reads := [(107, some 4), (111, some 0)]) 10 103 8 false rfl rfl rfl) ?_
            refine LinL.step (s := (.val (.bool true))) [(103, some 9), (112, some 0)] rfl (by kernel_rfl) (op_runs rfl fun σ w' hx hg => ⟨_, runs_pick_t (ρ := σ.eval) (w := w') (.tmp 103) (.const (.bool true)) (.tmp 112) rfl hg.1 rfl, rfl⟩) ?_
            refine LinL.step (s := (.val (.bool true))) [(113, some 0)] rfl (by kernel_rfl) (op_copy 113 0 (.val (.bool true)) rfl (.inr rfl) rfl) ?_
            intro wN hxN
            simp only [Fin', List.reverse_cons, List.reverse_nil, List.nil_append, List.cons_append, List.drop_zero, List.take_succ_cons, List.take_zero]
            simp only [Act.put, List.setIfInBounds_toArray, List.set_cons_zero, List.set_cons_succ]
            go_wp2
            go_ret
            exact Keep.intro ⟨rfl, hO.out.trans (hX.trans (hxd.trans hxN))⟩
          by_cases cB0 : lb.length ≤ M.length
          · have cA := hide_ cA0
            have cB := hide_ cB0
            clear cA0 cB0
            go_wp2
            refine wp_region_phx (by kernel_rfl) ?_; intro wd hxd; have j1 := o11.ext hxd; have j2 := o12.ext hxd
            refine Ph.rest 0 22 (by kernel_rfl) ?_
            refine LinL.step (s := (.val (.int .i64 (M.length : Nat)))) [(13, none)] rfl (by kernel_rfl) (op_out 13 (.int .i64 (M.length : Nat)) rfl (.inl rfl) rfl) ?_
            refine LinL.step (s := (.val (v11))) [(11, none)] rfl (by kernel_rfl) (op_out 11 (v11) rfl (.inl rfl) rfl) ?_
            refine LinL.step (s := (.val (.int .i64 (la.length : Nat)))) [(94, some 0)] rfl (by kernel_rfl) (op_runs rfl fun σ w' hx hg => ⟨_, runs_leni (ρ := σ.eval) (w := w') (.tmp 94) rfl hg.1 (j1.ext hx), rfl⟩) ?_
            refine LinL.step (s := (.val (.bool false))) [(93, some 2), (95, some 0)] rfl (by kernel_rfl) (op_runs rfl fun σ w' hx hg => ⟨(.bool false), by have h93 : σ.tmps.getD 93 undef = .int .i64 (M.length : Nat) := hg.1; have h95 : σ.tmps.getD 95 undef = .int .i64 (la.length : Nat) := hg.2.1; unfold Runs execOp; simp [Act.eval, h93, h95, go_sem, cA.out], rfl⟩) ?_
            refine LinL.step (s := (.val (.bool false))) [(96, some 0)] rfl (by kernel_rfl) (op_copy 96 0 (.val (.bool false)) rfl (.inl rfl) rfl) ?_
            refine LinL.step (s := (.val (.int .i64 (M.length : Nat)))) [(13, none), (97, some 0)] rfl (by kernel_rfl) (op_yes (reads := [(13, none)]) 4 97 0 false rfl rfl rfl (op_out 13 (.int .i64 (M.length : Nat)) rfl (.inl rfl) rfl)) ?_
            refine LinL.step (s := (.val (v12))) [(12, none), (97, some 1)] rfl (by kernel_rfl) (op_yes (reads := [(12, none)]) 4 97 1 false rfl rfl rfl (op_out 12 (v12) rfl (.inl rfl) rfl)) ?_
            refine LinL.step (s := (.val (.int .i64 (lb.length : Nat)))) [(99, some 0), (97, some 2)] rfl (by kernel_rfl) (op_yes (reads := [(99, some 0)]) 4 97 2 false rfl rfl rfl (op_runs rfl fun σ w' hx hg => ⟨_, runs_leni (ρ := σ.eval) (w := w') (.tmp 99) rfl hg.1 (j2.ext hx), rfl⟩)) ?_
            refine LinL.step (s := (.val (.bool true))) [(98, some 2), (100, some 0), (97, some 3)] rfl (by kernel_rfl) (op_yes (reads := [(98, some 2), (100, some 0)]) 4 97 3 false rfl rfl rfl (op_runs rfl fun σ w' hx hg => ⟨(.bool true), by have h98 : σ.tmps.getD 98 undef = .int .i64 (M.length : Nat) := hg.1; have h100 : σ.tmps.getD 100 undef = .int .i64 (lb.length : Nat) := hg.2.1; unfold Runs execOp; simp [Act.eval, h98, h100, go_sem, cB.out], rfl⟩)) ?_
            refine LinL.step (s := (.val (.bool true))) [(97, some 4), (101, some 0)] rfl (by kernel_rfl) (op_runs rfl fun σ w' hx hg => ⟨_, runs_pick_f (ρ := σ.eval) (w := w') (.tmp 97) (.const (.bool true)) (.tmp 101) rfl hg.1 hg.2.1, rfl⟩) ?_
            refine LinL.step (s := (.val (.bool true))) [(102, some 0)] rfl (by kernel_rfl) (op_copy 102 0 (.val (.bool true)) rfl (.inl rfl) rfl) ?_
            refine LinL.step (s := .val undef) [(11, none), (103, some 0)] rfl (by kernel_rfl) (op_no (reads := [(11, none)]) 10 103 0 false rfl rfl rfl) ?_
            refine LinL.step (s := .val undef) [(13, none), (103, some 1)] rfl (by kernel_rfl) (op_no (reads := [(13, none)]) 10 103 1 false rfl rfl rfl) ?_
            refine LinL.step (s := .val undef) [(104, some 1), (105, some 0), (103, some 2)] rfl (by kernel_rfl) (op_no (reads := [(104, some 1), (105, some 0)]) 10 103 2 false rfl rfl rfl) ?_
            refine LinL.step (s := .val undef) [(106, some 0), (103, some 3)] rfl (by kernel_rfl) (op_no (reads := [(106, some 0)]) 10 103 3 false rfl rfl rfl) ?_
            refine LinL.step (s := .val undef) [(12, none), (103, some 4)] rfl (by kernel_rfl) (op_no (reads := [(12, none)]) 10 103 4 false rfl rfl rfl) ?_
            refine LinL.step (s := .val undef) [(13, none), (103, some 5)] rfl (by kernel_rfl) (op_no (reads := [(13, none)]) 10 103 5 false rfl rfl rfl) ?_
            refine LinL.step (s := .val undef) [(108, some 1), (109, some 0), (103, some 6)] rfl (by kernel_rfl) (op_no (reads := [(108, some 1), (109, some 0)]) 10 103 6 false rfl rfl rfl) ?_
            refine LinL.step (s := .val undef) [(110, some 0), (103, some 7)] rfl (by kernel_rfl) (op_no (reads := [(110, some 0)]) 10 103 7 false rfl rfl rfl) ?_
            refine LinL.step (s := .val undef) [(107, some 4), (111, some 0), (103, some 8)] rfl (by kernel_rfl) (op_no (reads := [(107, some 4), (111, some 0)]) 10 103 8 false rfl rfl rfl) ?_
            refine LinL.step (s := (.val (.bool true))) [(103, some 9), (112, some 0)] rfl (by kernel_rfl) (op_runs rfl fun σ w' hx hg => ⟨_, runs_pick_t (ρ := σ.eval) (w := w') (.tmp 103) (.const (.bool true)) (.tmp 112) rfl hg.1 rfl, rfl⟩) ?_
            refine LinL.step (s := (.val (.bool true))) [(113, some 0)] rfl (by kernel_rfl) (op_copy 113 0 (.val (.bool true)) rfl (.inr rfl) rfl) ?_
            intro wN hxN
            simp only [Fin', List.reverse_cons, List.reverse_nil, List.nil_append, List.cons_append, List.drop_zero, List.take_succ_cons, List.take_zero]
            simp only [Act.put, List.setIfInBounds_toArray, List.set_cons_zero, List.set_cons_succ]
            go_wp2
            go_ret
            exact Keep.intro ⟨rfl, hO.out.trans (hX.trans (hxd.trans hxN))⟩
          obtain ⟨x, hx0⟩ : ∃ x, la[M.length]? = some x := ⟨_, List.getElem?_eq_getElem (by omega)⟩
          obtain ⟨y, hy0⟩ : ∃ y, lb[M.length]? = some y := ⟨_, List.getElem?_eq_getElem (by omega)⟩
          have hc := hide_ (hnx'.out x y hx0 hy0)
          have hxx := hide_ (show ∃ h : M.length < la.length, la[M.length] = x from List.getElem?_eq_some_iff.1 hx0)
          have hyy := hide_ (show ∃ h : M.length < lb.length, lb[M.length] = y from List.getElem?_eq_some_iff.1 hy0)
          have cA := hide_ cA0
          have cB := hide_ cB0
          clear cA0 cB0 hx0 hy0
          go_wp2
          refine wp_region_phx (by kernel_rfl) ?_; intro wd hxd; have j1 := o11.ext hxd; have j2 := o12.ext hxd
          refine Ph.rest 0 22 (by kernel_rfl) ?_
          refine LinL.step (s := (.val (.int .i64 (M.length : Nat)))) [(13, none)] rfl (by kernel_rfl) (op_out 13 (.int .i64 (M.length : Nat)) rfl (.inl rfl) rfl) ?_
          refine LinL.step (s := (.val (v11))) [(11, none)] rfl (by kernel_rfl) (op_out 11 (v11) rfl (.inl rfl) rfl) ?_
          refine LinL.step (s := (.val (.int .i64 (la.length : Nat)))) [(94, some 0)] rfl (by kernel_rfl) (op_runs rfl fun σ w' hx hg => ⟨_, runs_leni (ρ := σ.eval) (w := w') (.tmp 94) rfl hg.1 (j1.ext hx), rfl⟩) ?_
          refine LinL.step (s := (.val (.bool false))) [(93, some 2), (95, some 0)] rfl (by kernel_rfl) (op_runs rfl fun σ w' hx hg => ⟨(.bool false), by have h93 : σ.tmps.getD 93 undef = .int .i64 (M.length : Nat) := hg.1; have h95 : σ.tmps.getD 95 undef = .int .i64 (la.length : Nat) := hg.2.1; unfold Runs execOp; simp [Act.eval, h93, h95, go_sem, cA.out], rfl⟩) ?_
          refine LinL.step (s := (.val (.bool false))) [(96, some 0)] rfl (by kernel_rfl) (op_copy 96 0 (.val (.bool false)) rfl (.inl rfl) rfl) ?_
          refine LinL.step (s := (.val (.int .i64 (M.length : Nat)))) [(13, none), (97, some 0)] rfl (by kernel_rfl) (op_yes (reads := [(13, none)]) 4 97 0 false rfl rfl rfl (op_out 13 (.int .i64 (M.length : Nat)) rfl (.inl rfl) rfl)) ?_
          refine LinL.step (s := (.val (v12))) [(12, none), (97, some 1)] rfl (by kernel_rfl) (op_yes (reads := [(12, none)]) 4 97 1 false rfl rfl rfl (op_out 12 (v12) rfl (.inl rfl) rfl)) ?_
          refine LinL.step (s := (.val (.int .i64 (lb.length : Nat)))) [(99, some 0), (97, some 2)] rfl (by kernel_rfl) (op_yes (reads := [(99, some 0)]) 4 97 2 false rfl rfl rfl (op_runs rfl fun σ w' hx hg => ⟨_, runs_leni (ρ := σ.eval) (w := w') (.tmp 99) rfl hg.1 (j2.ext hx), rfl⟩)) ?_
          refine LinL.step (s := (.val (.bool false))) [(98, some 2), (100, some 0), (97, some 3)] rfl (by kernel_rfl) (op_yes (reads := [(98, some 2), (100, some 0)]) 4 97 3 false rfl rfl rfl (op_runs rfl fun σ w' hx hg => ⟨(.bool false), by have h98 : σ.tmps.getD 98 undef = .int .i64 (M.length : Nat) := hg.1; have h100 : σ.tmps.getD 100 undef = .int .i64 (lb.length : Nat) := hg.2.1; unfold Runs execOp; simp [Act.eval, h98, h100, go_sem, cB.out], rfl⟩)) ?_
          refine LinL.step (s := (.val (.bool false))) [(97, some 4), (101, some 0)] rfl (by kernel_rfl) (op_runs rfl fun σ w' hx hg => ⟨_, runs_pick_f (ρ := σ.eval) (w := w') (.tmp 97) (.const (.bool true)) (.tmp 101) rfl hg.1 hg.2.1, rfl⟩) ?_
          refine LinL.step (s := (.val (.bool false))) [(102, some 0)] rfl (by kernel_rfl) (op_copy 102 0 (.val (.bool false)) rfl (.inl rfl) rfl) ?_
          refine LinL.step (s := (.val (v11))) [(11, none), (103, some 0)] rfl (by kernel_rfl) (op_yes (reads := [(11, none)]) 10 103 0 false rfl rfl rfl (op_out 11 (v11) rfl (.inl rfl) rfl)) ?_
          refine LinL.step (s := (.val (.int .i64 (M.length : Nat)))) [(13, none), (103, some 1)] rfl (by kernel_rfl) (op_yes (reads := [(13, none)]) 10 103 1 false rfl rfl rfl (op_out 13 (.int .i64 (M.length : Nat)) rfl (.inl rfl) rfl)) ?_
          refine LinL.step (s := (Sp.ptr (.int .i64 (x)))) [(104, some 1), (105, some 0), (103, some 2)] rfl (by kernel_rfl) (op_yes (reads := [(104, some 1), (105, some 0)]) 10 103 2 false rfl rfl rfl (op_runs rfl fun σ w' hx hg => rptri (ρ := σ.eval) (w := w') (.tmp 104) (.tmp 105) rfl hg.1 (j1.ext hx) M.length hg.2.1 hxx.out.choose hxx.out.choose_spec)) ?_
          refine LinL.step (s := (.val (.int .i64 (x : Int)))) [(106, some 0), (103, some 3)] rfl (by kernel_rfl) (op_yes (reads := [(106, some 0)]) 10 103 3 false rfl rfl rfl (op_runs rfl fun σ w' hx hg => ⟨_, runs_load (ρ := σ.eval) (w := w') (.tmp 106) rfl Try.underlying3 rfl hg.1, rfl⟩)) ?_
          refine LinL.step (s := (.val (v12))) [(12, none), (103, some 4)] rfl (by kernel_rfl) (op_yes (reads := [(12, none)]) 10 103 4 false rfl rfl rfl (op_out 12 (v12) rfl (.inl rfl) rfl)) ?_
          refine LinL.step (s := (.val (.int .i64 (M.length : Nat)))) [(13, none), (103, some 5)] rfl (by kernel_rfl) (op_yes (reads := [(13, none)]) 10 103 5 false rfl rfl rfl (op_out 13 (.int .i64 (M.length : Nat)) rfl (.inl rfl) rfl)) ?_
          refine LinL.step (s := (Sp.ptr (.int .i64 (y)))) [(108, some 1), (109, some 0), (103, some 6)] rfl (by kernel_rfl) (op_yes (reads := [(108, some 1), (109, some 0)]) 10 103 6 false rfl rfl rfl (op_runs rfl fun σ w' hx hg => rptri (ρ := σ.eval) (w := w') (.tmp 108) (.tmp 109) rfl hg.1 (j2.ext hx) M.length hg.2.1 hyy.out.choose hyy.out.choose_spec)) ?_
          refine LinL.step (s := (.val (.int .i64 (y : Int)))) [(110, some 0), (103, some 7)] rfl (by kernel_rfl) (op_yes (reads := [(110, some 0)]) 10 103 7 false rfl rfl rfl (op_runs rfl fun σ w' hx hg => ⟨_, runs_load (ρ := σ.eval) (w := w') (.tmp 110) rfl Try.underlying3 rfl hg.1, rfl⟩)) ?_
          refine LinL.step (s := (.val (.bool true))) [(107, some 4), (111, some 0), (103, some 8)] rfl (by kernel_rfl) (op_yes (reads := [(107, some 4), (111, some 0)]) 10 103 8 false rfl rfl rfl (op_runs rfl fun σ w' hx hg => ⟨(.bool true), by have h107 : σ.tmps.getD 107 undef = .int .i64 (x : Int) := hg.1; have h111 : σ.tmps.getD 111 undef = .int .i64 (y : Int) := hg.2.1; unfold Runs execOp; simp [Act.eval, h107, h111, go_sem, hc.out], rfl⟩)) ?_
          refine LinL.step (s := (.val (.bool true))) [(103, some 9), (112, some 0)] rfl (by kernel_rfl) (op_runs rfl fun σ w' hx hg => ⟨_, runs_pick_f (ρ := σ.eval) (w := w') (.tmp 103) (.const (.bool true)) (.tmp 112) rfl hg.1 hg.2.1, rfl⟩) ?_
          refine LinL.step (s := (.val (.bool true))) [(113, some 0)] rfl (by kernel_rfl) (op_copy 113 0 (.val (.bool true)) rfl (.inr rfl) rfl) ?_
          intro wN hxN
          simp only [Fin', Sp.ptr, List.reverse_cons, List.reverse_nil, List.nil_append, List.cons_append, List.drop_zero, List.take_succ_cons, List.take_zero]
          intro q106 hq106 q110 hq110
          simp only [Act.put, List.setIfInBounds_toArray, List.set_cons_zero, List.set_cons_succ]
          go_wp2
          go_ret
          exact Keep.intro ⟨rfl, hO.out.trans (hX.trans (hxd.trans hxN))⟩
      · have hCm3 := hC30 rfl
        clear hC30
        go_wp2_with (first
          | (go_at_call 36; (with_reducible refine (hCm1.out _ hX).mono ?_); rintro e w5 ⟨rfl, hx⟩; replace hX := hX.trans hx; clear hx)
          | (go_at_call 36; (with_reducible refine (hCm2.out _ hX).mono ?_); rintro e w5 ⟨rfl, hx⟩; replace hX := hX.trans hx; clear hx)
          | (go_at_call 36; (with_reducible refine (hCm3.out _ hX).mono ?_); rintro e w5 ⟨rfl, hx⟩; replace hX := hX.trans hx; clear hx)
          | (go_at_call 30; (with_reducible refine (hHa.out _ hX).mono ?_); rintro e w5 ⟨rfl, hx⟩; replace hX := hX.trans hx; clear hx)
          | (go_at_call 32; (with_reducible refine (hPa.out _ hX).mono ?_); rintro e w5 ⟨v11, rfl, o11, hx⟩; replace o11 := o11.ints; replace hX := hX.trans hx; clear hx)
          | (go_at_call 32; (with_reducible refine (hPb.out _ hX).mono ?_); rintro e w5 ⟨v12, rfl, o12, hx⟩; replace o12 := o12.ints; replace o11 := o11.ext hx; replace hX := hX.trans hx; clear hx)
          | (go_at_call 16; (with_reducible refine (hHt.out _ hX).mono ?_); rintro e w5 ⟨rfl, hx⟩; replace o12 := o12.ext hx; replace o11 := o11.ext hx; replace hX := hX.trans hx; clear hx)
          | fail)
        go_loopw [14] (fun i wx => ∃ k : Nat, i = .int .i64 k ∧ k ≤ M.length ∧ Ext wr wx ∧ Ints wx v11 la ∧ Ints wx v12 lb) (fun i _ => M.length - (RowKit.intOf i).toNat)
        case atStart => exact ⟨0, rfl, Nat.zero_le _, hX, o11, o12⟩
        case round =>
          clear hX o11 o12
          obtain ⟨k, rfl, hk, hX, o11, o12⟩ := hrel
          by_cases hge : M.length ≤ k
          rotate_left
          · have hlt : k < M.length := by omega
            have t2 : decide (k < M.length) = true := by simpa using hlt
            obtain ⟨x, hx0⟩ : ∃ x, M[k]? = some x := ⟨_, List.getElem?_eq_getElem hlt⟩
            have hxx := hide_ (show ∃ h : k < la.length, la[k] = x from List.getElem?_eq_some_iff.1 (by
              obtain ⟨s, hs⟩ := hp1.out
              rw [← hs, List.getElem?_append_left hlt]; exact hx0))
            have hyy := hide_ (show ∃ h : k < lb.length, lb[k] = x from List.getElem?_eq_some_iff.1 (by
              obtain ⟨s, hs⟩ := hp2.out
              rw [← hs, List.getElem?_append_left hlt]; exact hx0))
            have hlt' := hide_ hlt
            clear hge hlt hx0
            go_wp2
            refine wp_region_phx (by kernel_rfl) ?_; intro wd hxd; have j1 := o11.ext hxd; have j2 := o12.ext hxd
            refine Ph.rest 0 9 (by kernel_rfl) ?_
            refine LinL.step (s := (.val (v11))) [(11, none)] rfl (by kernel_rfl) (op_out 11 (v11) rfl (.inl rfl) rfl) ?_
            refine LinL.step (s := (.val (.int .i64 (k : Nat)))) [(14, none)] rfl (by kernel_rfl) (op_out 14 (.int .i64 (k : Nat)) rfl (.inl rfl) rfl) ?_
            refine LinL.step (s := (Sp.ptr (.int .i64 (x)))) [(84, some 1), (85, some 0)] rfl (by kernel_rfl) (op_runs rfl fun σ w' hx hg => rptri (ρ := σ.eval) (w := w') (.tmp 84) (.tmp 85) rfl hg.1 (j1.ext hx) k hg.2.1 hxx.out.choose hxx.out.choose_spec) ?_
            refine LinL.step (s := (.val (.int .i64 (x : Int)))) [(86, some 0)] rfl (by kernel_rfl) (op_runs rfl fun σ w' hx hg => ⟨_, runs_load (ρ := σ.eval) (w := w') (.tmp 86) rfl Try.underlying3 rfl hg.1, rfl⟩) ?_
            refine LinL.step (s := (.val (v12))) [(12, none)] rfl (by kernel_rfl) (op_out 12 (v12) rfl (.inl rfl) rfl) ?_
            refine LinL.step (s := (.val (.int .i64 (k : Nat)))) [(14, none)] rfl (by kernel_rfl) (op_out 14 (.int .i64 (k : Nat)) rfl (.inl rfl) rfl) ?_
            refine LinL.step (s := (Sp.ptr (.int .i64 (x)))) [(88, some 1), (89, some 0)] rfl (by kernel_rfl) (op_runs rfl fun σ w' hx hg => rptri (ρ := σ.eval) (w := w') (.tmp 88) (.tmp 89) rfl hg.1 (j2.ext hx) k hg.2.1 hyy.out.choose hyy.out.choose_spec) ?_
            refine LinL.step (s := (.val (.int .i64 (x : Int)))) [(90, some 0)] rfl (by kernel_rfl) (op_runs rfl fun σ w' hx hg => ⟨_, runs_load (ρ := σ.eval) (w := w') (.tmp 90) rfl Try.underlying3 rfl hg.1, rfl⟩) ?_
            refine LinL.step (s := (.val (.bool false))) [(87, some 4), (91, some 0)] rfl (by kernel_rfl) (op_runs rfl fun σ w' hx hg => ⟨(.bool false), by have h87 : σ.tmps.getD 87 undef = .int .i64 (x : Int) := hg.1; have h91 : σ.tmps.getD 91 undef = .int .i64 (x : Int) := hg.2.1; unfold Runs execOp; simp [Act.eval, h87, h91, go_sem], rfl⟩) ?_
            intro wN hxN
            simp only [Fin', Sp.ptr, List.reverse_cons, List.reverse_nil, List.nil_append, List.cons_append, List.drop_zero, List.take_succ_cons, List.take_zero]
            intro q86 hq86 q90 hq90
            simp only [Act.put, List.setIfInBounds_toArray, List.set_cons_zero, List.set_cons_succ]
            replace o11 := o11.ext (hxd.trans hxN)
            replace o12 := o12.ext (hxd.trans hxN)
            replace hX := hX.trans (hxd.trans hxN)
            clear hxd hxN
            go_wp2
            go_roundw
            case rel => exact ⟨k + 1, by go_num, hlt'.out, hX, o11, o12⟩
            case measure => have := hlt'.out; simp [RowKit.intOf]; omega
          obtain rfl : k = M.length := by omega
          have t2 : decide (M.length < M.length) = false := by simp
          clear hge hk
          by_cases cA0 : la.length ≤ M.length
          · have cA := hide_ cA0
            clear cA0
            go_wp2
            refine wp_region_phx (by kernel_rfl) ?_; intro wd hxd; have j1 := o11.ext hxd; have j2 := o12.ext hxd
            refine Ph.rest 0 22 (by kernel_rfl) ?_
            refine LinL.step (s := (.val (.int .i64 (M.length : Nat)))) [(13, none)] rfl (by kernel_rfl) (op_out 13 (.int .i64 (M.length : Nat)) rfl (.inl rfl) rfl) ?_
            refine LinL.step (s := (.val (v11))) [(11, none)] rfl (by kernel_rfl) (op_out 11 (v11) rfl (.inl rfl) rfl) ?_
            refine LinL.step (s := (.val (.int .i64 (la.length : Nat)))) [(94, some 0)] rfl (by kernel_rfl) (op_runs rfl fun σ w' hx hg => ⟨_, runs_leni (ρ := σ.eval) (w := w') (.tmp 94) rfl hg.1 (j1.ext hx), rfl⟩) ?_
            refine LinL.step (s := (.val (.bool true))) [(93, some 2), (95, some 0)] rfl (by kernel_rfl) (op_runs rfl fun σ w' hx hg => ⟨(.bool true), by have h93 : σ.tmps.getD 93 undef = .int .i64 (M.length : Nat) := hg.1; have h95 : σ.tmps.getD 95 undef = .int .i64 (la.length : Nat) := hg.2.1; unfold Runs execOp; simp [Act.eval, h93, h95, go_sem, cA.out], rfl⟩) ?_
            refine LinL.step (s := (.val (.bool true))) [(96, some 0)] rfl (by kernel_rfl) (op_copy 96 0 (.val (.bool true)) rfl (.inl rfl) rfl) ?_
            refine LinL.step (s := .val undef) [(13, none), (97, some 0)] rfl (by kernel_rfl) (op_no (reads := [(13, none)]) 4 97 0 false rfl rfl rfl) ?_
            refine LinL.step (s := .val undef) [(12, none), (97, some 1)] rfl (by kernel_rfl) (op_no (reads := [(12, none)]) 4 97 1 false rfl rfl rfl) ?_
            refine LinL.step (s := .val undef) [(99, some 0), (97, some 2)] rfl (by kernel_rfl) (op_no (reads := [(99, some 0)]) 4 97 2 false rfl rfl rfl) ?_
            refine LinL.step (s := .val undef) [(98, some 2), (100, some 0), (97, some 3)] rfl (by kernel_rfl) (op_no (reads := [(98, some 2), (100, some 0)]) 4 97 3 false rfl rfl rfl) ?_
            refine LinL.step (s := (.val (.bool true))) [(97, some 4), (101, some 0)] rfl (by kernel_rfl) (op_runs rfl fun σ w' hx hg => ⟨_, runs_pick_t (ρ := σ.eval) (w := w') (.tmp 97) (.const (.bool true)) (.tmp 101) rfl hg.1 rfl, rfl⟩) ?_
            refine LinL.step (s := (.val (.bool true))) [(102, some 0)] rfl (by kernel_rfl) (op_copy 102 0 (.val (.bool true)) rfl (.inl rfl) rfl) ?_
            refine LinL.step (s := .val undef) [(11, none), (103, some 0)] rfl (by kernel_rfl) (op_no (reads := [(11, none)]) 10 103 0 false rfl rfl rfl) ?_
            refine LinL.step (s := .val undef) [(13, none), (103, some 1)] rfl (by kernel_rfl) (op_no (reads := [(13, none)]) 10 103 1 false rfl rfl rfl) ?_
            refine LinL.step (s := .val undef) [(104, some 1), (105, some 0), (103, some 2)] rfl (by kernel_rfl) (op_no (reads := [(104, some 1), (105, some 0)]) 10 103 2 false rfl rfl rfl) ?_
            refine LinL.step (s := .val undef) [(106, some 0), (103, some 3)] rfl (by kernel_rfl) (op_no (reads := [(106, some 0)]) 10 103 3 false rfl rfl rfl) ?_
            refine LinL.step (s := .val undef) [(12, none), (103, some 4)] rfl (by kernel_rfl) (op_no (reads := [(12, none)]) 10 103 4 false rfl rfl rfl) ?_
            refine LinL.step (s := .val undef) [(13, none), (103, some 5)] rfl (by kernel_rfl) (op_no (reads := [(13, none)]) 10 103 5 false rfl rfl rfl) ?_
            refine LinL.step (s := .val undef) [(108, some 1), (109, some 0), (103, some 6)] rfl (by kernel_rfl) (op_no (reads := [(108, some 1), (109, some 0)]) 10 103 6 false rfl rfl rfl) ?_
            refine LinL.step (s := .val undef) [(110, some 0), (103, some 7)] rfl (by kernel_rfl) (op_no (reads := [(110, some 0)]) 10 103 7 false rfl rfl rfl) ?_
            refine LinL.step (s := .val undef) [(107, some 4), (111, some 0), (103, some 8)] rfl (by kernel_rfl) (op_no (reads := [(107, some 4), (111, some 0)]) 10 103 8 false rfl rfl rfl) ?_
            refine LinL.step (s := (.val (.bool true))) [(103, some 9), (112, some 0)] rfl (by kernel_rfl) (op_runs rfl fun σ w' hx hg => ⟨_, runs_pick_t (ρ := σ.eval) (w := w') (.tmp 103) (.const (.bool true)) (.tmp 112) rfl hg.1 rfl, rfl⟩) ?_
            refine LinL.step (s := (.val (.bool true))) [(113, some 0)] rfl (by kernel_rfl) (op_copy 113 0 (.val (.bool true)) rfl (.inr rfl) rfl) ?_
            intro wN hxN
            simp only [Fin', List.reverse_cons, List.reverse_nil, List.nil_append, List.cons_append, List.drop_zero, List.take_succ_cons, List.take_zero]
            simp only [Act.put, List.setIfInBounds_toArray, List.set_cons_zero, List.set_cons_succ]
            go_wp2
            go_ret
            exact Keep.intro ⟨rfl, hO.out.trans (hX.trans (hxd.trans hxN))⟩
          by_cases cB0 : lb.length ≤ M.length
          · have cA := hide_ cA0
            have cB := hide_ cB0
            clear cA0 cB0
            go_wp2
            refine wp_region_phx (by kernel_rfl) ?_; intro wd hxd; have j1 := o11.ext hxd; have j2 := o12.ext hxd
            refine Ph.rest 0 22 (by kernel_rfl) ?_
            refine LinL.step (s := (.val (.int .i64 (M.length : Nat)))) [(13, none)] rfl (by kernel_rfl) (op_out 13 (.int .i64 (M.length : Nat)) rfl (.inl rfl) rfl) ?_
            refine LinL.step (s := (.val (v11))) [(11, none)] rfl (by kernel_rfl) (op_out 11 (v11) rfl (.inl rfl) rfl) ?_
            refine LinL.step (s := (.val (.int .i64 (la.length : Nat)))) [(94, some 0)] rfl (by kernel_rfl) (op_runs rfl fun σ w' hx hg => ⟨_, runs_leni (ρ := σ.eval) (w := w') (.tmp 94) rfl hg.1 (j1.ext hx), rfl⟩) ?_
            refine LinL.step (s := (.val (.bool false))) [(93, some 2), (95, some 0)] rfl (by kernel_rfl) (op_runs rfl fun σ w' hx hg => ⟨(.bool false), by have h93 : σ.tmps.getD 93 undef = .int .i64 (M.length : Nat) := hg.1; have h95 : σ.tmps.getD 95 undef = .int .i64 (la.length : Nat) := hg.2.1; unfold Runs execOp; simp [Act.eval, h93, h95, go_sem, cA.out], rfl⟩) ?_
            refine LinL.step (s := (.val (.bool false))) [(96, some 0)] rfl (by kernel_rfl) (op_copy 96 0 (.val (.bool false)) rfl (.inl rfl) rfl) ?_
            refine LinL.step (s := (.val (.int .i64 (M.length : Nat)))) [(13, none), (97, some 0)] rfl (by kernel_rfl) (op_yes (reads := [(13, none)]) 4 97 0 false rfl rfl rfl (op_out 13 (.int .i64 (M.length : Nat)) rfl (.inl rfl) rfl)) ?_
            refine LinL.step (s := (.val (v12))) [(12, none), (97, some 1)] rfl (by kernel_rfl) (op_yes (reads := [(12, none)]) 4 97 1 false rfl rfl rfl (op_out 12 (v12) rfl (.inl rfl) rfl)) ?_
            refine LinL.step (s := (.val (.int .i64 (lb.length : Nat)))) [(99, some 0), (97, some 2)] rfl (by kernel_rfl) (op_yes (reads := [(99, some 0)]) 4 97 2 false rfl rfl rfl (op_runs rfl fun σ w' hx hg => ⟨_, runs_leni (ρ := σ.eval) (w := w') (.tmp 99) rfl hg.1 (j2.ext hx), rfl⟩)) ?_
            refine LinL.step (s := (.val (.bool true))) [(98, some 2), (100, some 0), (97, some 3)] rfl (by kernel_rfl) (op_yes (reads := [(98, some 2), (100, some 0)]) 4 97 3 false rfl rfl rfl (op_runs rfl fun σ w' hx hg => ⟨(.bool true), by have h98 : σ.tmps.getD 98 undef = .int .i64 (M.length : Nat) := hg.1; have h100 : σ.tmps.getD 100 undef = .int .i64 (lb.length : Nat) := hg.2.1; unfold Runs execOp; simp [Act.eval, h98, h100, go_sem, cB.out], rfl⟩)) ?_
            refine LinL.step (s := (.val (.bool true))) [(97, some 4), (101, some 0)] rfl (by kernel_rfl) (op_runs rfl fun σ w' hx hg => ⟨_, runs_pick_f (ρ := σ.eval) (w := w') (.tmp 97) (.const (.bool true)) (.tmp 101) rfl hg.1 hg.2.1, rfl⟩) ?_
            refine LinL.step (s := (.val (.bool true))) [(102, some 0)] rfl (by kernel_rfl) (op_copy 102 0 (.val (.bool true)) rfl (.inl rfl) rfl) ?_
            refine LinL.step (s := .val undef) [(11, none), (103, some 0)] rfl (by kernel_rfl) (op_no (reads := [(11, none)]) 10 103 0 false rfl rfl rfl) ?_
            refine LinL.step (s := .val undef) [(13, none), (103, some 1)] rfl (by kernel_rfl) (op_no (reads := [(13, none)]) 10 103 1 false rfl rfl rfl) ?_
            refine LinL.step (s := .val undef) [(104, some 1), (105, some 0), (103, some 2)] rfl (by kernel_rfl) (op_no (reads := [(104, some 1), (105, some 0)]) 10 103 2 false rfl rfl rfl) ?_
            refine LinL.step (s := .val undef) [(106, some 0), (103, some 3)] rfl (by kernel_rfl) (op_no (reads := [(106, some 0)]) 10 103 3 false rfl rfl rfl) ?_
            refine LinL.step (s := .val undef) [(12, none), (103, some 4)] rfl (by kernel_rfl) (op_no (reads := [(12, none)]) 10 103 4 false rfl rfl rfl) ?_
            refine LinL.step (s := .val undef) [(13, none), (103, some 5)] rfl (by kernel_rfl) (op_no (reads := [(13, none)]) 10 103 5 false rfl rfl rfl) ?_
            refine LinL.step (s := .val undef) [(108, some 1), (109, some 0), (103, some 6)] rfl (by kernel_rfl) (op_no (reads := [(108, some 1), (109, some 0)]) 10 103 6 false rfl rfl rfl) ?_
            refine LinL.step (s := .val undef) [(110, some 0), (103, some 7)] rfl (by kernel_rfl) (op_no (reads := [(110, some 0)]) 10 103 7 false rfl rfl rfl) ?_
            refine LinL.step (s := .val undef) [(107, some 4), (111, some 0), (103, some 8)] rfl (by kernel_rfl) (op_no (reads := [(107, some 4), (111, some 0)]) 10 103 8 false rfl rfl rfl) ?_
            refine LinL.step (s := (.val (.bool true))) [(103, some 9), (112, some 0)] rfl (by kernel_rfl) (op_runs rfl fun σ w' hx hg => ⟨_, runs_pick_t (ρ := σ.eval) (w := w') (.tmp 103) (.const (.bool true)) (.tmp 112) rfl hg.1 rfl, rfl⟩) ?_
            refine LinL.step (s := (.val (.bool true))) [(113, some 0)] rfl (by kernel_rfl) (op_copy 113 0 (.val (.bool true)) rfl (.inr rfl) rfl) ?_
            intro wN hxN
            simp only [Fin', List.reverse_cons, List.reverse_nil, List.nil_append, List.cons_append, List.drop_zero, List.take_succ_cons, List.take_zero]
            simp only [Act.put, List.setIfInBounds_toArray, List.set_cons_zero, List.set_cons_succ]
            go_wp2
            go_ret
            exact Keep.intro ⟨rfl, hO.out.trans (hX.trans (hxd.trans hxN))⟩
          obtain ⟨x, hx0⟩ : ∃ x, la[M.length]? = some x := ⟨_, List.getElem?_eq_getElem (by omega)⟩
          obtain ⟨y, hy0⟩ : ∃ y, lb[M.length]? = some y := ⟨_, List.getElem?_eq_getElem (by omega)⟩
          have hc := hide_ (hnx'.out x y hx0 hy0)
          have hxx := hide_ (show ∃ h : M.length < la.length, la[M.length] = x from List.getElem?_eq_some_iff.1 hx0)
          have hyy := hide_ (show ∃ h : M.length < lb.length, lb[M.length] = y from List.getElem?_eq_some_iff.1 hy0)
          have cA := hide_ cA0
          have cB := hide_ cB0
          clear cA0 cB0 hx0 hy0
          go_wp2
          refine wp_region_phx (by kernel_rfl) ?_; intro wd hxd; have j1 := o11.ext hxd; have j2 := o12.ext hxd
          refine Ph.rest 0 22 (by kernel_rfl) ?_
          refine LinL.step (s := (.val (.int .i64 (M.length : Nat)))) [(13, none)] rfl (by kernel_rfl) (op_out 13 (.int .i64 (M.length : Nat)) rfl (.inl rfl) rfl) ?_
          refine LinL.step (s := (.val (v11))) [(11, none)] rfl (by kernel_rfl) (op_out 11 (v11) rfl (.inl rfl) rfl) ?_
          refine LinL.step (s := (.val (.int .i64 (la.length : Nat)))) [(94, some 0)] rfl (by kernel_rfl) (op_runs rfl fun σ w' hx hg => ⟨_, runs_leni (ρ := σ.eval) (w := w') (.tmp 94) rfl hg.1 (j1.ext hx), rfl⟩) ?_
          refine LinL.step (s := (.val (.bool false))) [(93, some 2), (95, some 0)] rfl (by kernel_rfl) (op_runs rfl fun σ w' hx hg => ⟨(.bool false), by have h93 : σ.tmps.getD 93 undef = .int .i64 (M.length : Nat) := hg.1; have h95 : σ.tmps.getD 95 undef = .int .i64 (la.length : Nat) := hg.2.1; unfold Runs execOp; simp [Act.eval, h93, h95, go_sem, cA.out], rfl⟩) ?_
          refine LinL.step (s := (.val (.bool false))) [(96, some 0)] rfl (by kernel_rfl) (op_copy 96 0 (.val (.bool false)) rfl (.inl rfl) rfl) ?_
          refine LinL.step (s := (.val (.int .i64 (M.length : Nat)))) [(13, none), (97, some 0)] rfl (by kernel_rfl) (op_yes (reads := [(13, none)]) 4 97 0 false rfl rfl rfl (op_out 13 (.int .i64 (M.length : Nat)) rfl (.inl rfl) rfl)) ?_
          refine LinL.step (s := (.val (v12))) [(12, none), (97, some 1)] rfl (by kernel_rfl) (op_yes (reads := [(12, none)]) 4 97 1 false rfl rfl rfl (op_out 12 (v12) rfl (.inl rfl) rfl)) ?_
          refine LinL.step (s := (.val (.int .i64 (lb.length : Nat)))) [(99, some 0), (97, some 2)] rfl (by kernel_rfl) (op_yes (reads := [(99, some 0)]) 4 97 2 false rfl rfl rfl (op_runs rfl fun σ w' hx hg => ⟨_, runs_leni (ρ := σ.eval) (w := w') (.tmp 99) rfl hg.1 (j2.ext hx), rfl⟩)) ?_
          refine LinL.step (s := (.val (.bool false))) [(98, some 2), (100, some 0), (97, some 3)] rfl (by kernel_rfl) (op_yes (reads := [(98, some 2), (100, some 0)]) 4 97 3 false rfl rfl rfl (op_runs rfl fun σ w' hx hg => ⟨(.bool false), by have h98 : σ.tmps.getD 98 undef = .int .i64 (M.length : Nat) := hg.1; have h100 : σ.tmps.getD 100 undef = .int .i64 (lb.length : Nat) := hg.2.1; unfold Runs execOp; simp [Act.eval, h98, h100, go_sem, cB.out], rfl⟩)) ?_
          refine LinL.step (s := (.val (.bool false))) [(97, some 4), (101, some 0)] rfl (by kernel_rfl) (op_runs rfl fun σ w' hx hg => ⟨_, runs_pick_f (ρ := σ.eval) (w := w') (.tmp 97) (.const (.bool true)) (.tmp 101) rfl hg.1 hg.2.1, rfl⟩) ?_
          refine LinL.step (s := (.val (.bool false))) [(102, some 0)] rfl (by kernel_rfl) (op_copy 102 0 (.val (.bool false)) rfl (.inl rfl) rfl) ?_
          refine LinL.step (s := (.val (v11))) [(11, none), (103, some 0)] rfl (by kernel_rfl) (op_yes (reads := [(11, none)]) 10 103 0 false rfl rfl rfl (op_out 11 (v11) rfl (.inl rfl) rfl)) ?_
          refine LinL.step (s := (.val (.int .i64 (M.length : Nat)))) [(13, none), (103, some 1)] rfl (by kernel_rfl) (op_yes (reads := [(13, none)]) 10 103 1 false rfl rfl rfl (op_out 13 (.int .i64 (M.length : Nat)) rfl (.inl rfl) rfl)) ?_
          refine LinL.step (s := (Sp.ptr (.int .i64 (x)))) [(104, some 1), (105, some 0), (103, some 2)] rfl (by kernel_rfl) (op_yes (reads := [(104, some 1), (105, some 0)]) 10 103 2 false rfl rfl rfl (op_runs rfl fun σ w' hx hg => rptri (ρ := σ.eval) (w := w') (.tmp 104) (.tmp 105) rfl hg.1 (j1.ext hx) M.length hg.2.1 hxx.out.choose hxx.out.choose_spec)) ?_
          refine LinL.step (s := (.val (.int .i64 (x : Int)))) [(106, some 0), (103, some 3)] rfl (by kernel_rfl) (op_yes (reads := [(106, some 0)]) 10 103 3 false rfl rfl rfl (op_runs rfl fun σ w' hx hg => ⟨_, runs_load (ρ := σ.eval) (w := w') (.tmp 106) rfl Try.underlying3 rfl hg.1, rfl⟩)) ?_
          refine LinL.step (s := (.val (v12))) [(12, none), (103, some 4)] rfl (by kernel_rfl) (op_yes (reads := [(12, none)]) 10 103 4 false rfl rfl rfl (op_out 12 (v12) rfl (.inl rfl) rfl)) ?_
          refine LinL.step (s := (.val (.int .i64 (M.length : Nat)))) [(13, none), (103, some 5)] rfl (by kernel_rfl) (op_yes (reads := [(13, none)]) 10 103 5 false rfl rfl rfl (op_out 13 (.int .i64 (M.length : Nat)) rfl (.inl rfl) rfl)) ?_
          refine LinL.step (s := (Sp.ptr (.int .i64 (y)))) [(108, some 1), (109, some 0), (103, some 6)] rfl (by kernel_rfl) (op_yes (reads := [(108, some 1), (109, some 0)]) 10 103 6 false rfl rfl rfl (op_runs rfl fun σ w' hx hg => rptri (ρ := σ.eval) (w := w') (.tmp 108) (.tmp 109) rfl hg.1 (j2.ext hx) M.length hg.2.1 hyy.out.choose hyy.out.choose_spec)) ?_
          refine LinL.step (s := (.val (.int .i64 (y : Int)))) [(110, some 0), (103, some 7)] rfl (by kernel_rfl) (op_yes (reads := [(110, some 0)]) 10 103 7 false rfl rfl rfl (op_runs rfl fun σ w' hx hg => ⟨_, runs_load (ρ := σ.eval) (w := w') (.tmp 110) rfl Try.underlying3 rfl hg.1, rfl⟩)) ?_
          refine LinL.step (s := (.val (.bool true))) [(107, some 4), (111, some 0), (103, some 8)] rfl (by kernel_rfl) (op_yes (reads := [(107, some 4), (111, some 0)]) 10 103 8 false rfl rfl rfl (op_runs rfl fun σ w' hx hg => ⟨(.bool true), by have h107 : σ.tmps.getD 107 undef = .int .i64 (x : Int) := hg.1; have h111 : σ.tmps.getD 111 undef = .int .i64 (y : Int) := hg.2.1; unfold Runs execOp; simp [Act.eval, h107, h111, go_sem, hc.out], rfl⟩)) ?_
          refine LinL.step (s := (.val (.bool true))) [(103, some 9), (112, some 0)] rfl (by kernel_rfl) (op_runs rfl fun σ w' hx hg => ⟨_, runs_pick_f (ρ := σ.eval) (w := w') (.tmp 103) (.const (.bool true)) (.tmp 112) rfl hg.1 hg.2.1, rfl⟩) ?_
          refine LinL.step (s := (.val (.bool true))) [(113, some 0)] rfl (by kernel_rfl) (op_copy 113 0 (.val (.bool true)) rfl (.inr rfl) rfl) ?_
          intro wN hxN
          simp only [Fin', Sp.ptr, List.reverse_cons, List.reverse_nil, List.nil_append, List.cons_append, List.drop_zero, List.take_succ_cons, List.take_zero]
          intro q106 hq106 q110 hq110
          simp only [Act.put, List.setIfInBounds_toArray, List.set_cons_zero, List.set_cons_succ]
          go_wp2
          go_ret
          exact Keep.intro ⟨rfl, hO.out.trans (hX.trans (hxd.trans hxN))⟩

set_option maxRecDepth 100000 in
theorem treeCommon_lifted (os : Os) (started : os.Started) (H : Type) (enc : TypeId × Value → H) :
    ReturnsInHanded {} Try.checked os 8 .any (Rows.treeCommonSpec.pre6 enc Try.prog Try.f8 Rows.treeCommonRow.domain false) (Rows.treeCommonSpec.post enc Try.prog Try.f8 false true false false) := by
  refine law_lifted (s := Rows.treeCommonSpec) (conds := Rows.treeCommonRow.domain) Try.func8 (by kernel_rfl) rfl (fun H ds h => by
      rw [show Try.f8.params.size = 3 from rfl] at h
      match ds, h with
      | [d0, d1, d2], _ => rfl) rfl rfl (by decide +kernel) os started H enc
    (ChangeSpec.witness6 (enc := enc) (C := Try.checked) false ⟨#[], #[.slice none 0 0, .int .i64 0, .int .i64 0], []⟩ 8 (by kernel_rfl) (by kernel_rfl) (by kernel_rfl) (by kernel_rfl)) ?_
  intro W base args ds p hval hA hsz _
  have hp : Try.f8.params.toList = [29, 3, 3] := rfl
  rw [hp] at hA hsz
  obtain ⟨v0, v1, v2, d0, d1, d2, p0, p1, p2, rfl, rfl, rfl, h0, h1, h2⟩ := trodAll_three hA
  obtain ⟨l0, k0⟩ := arg_Blks hsz (j := 0) rfl rfl (hval 0 29 v0 rfl rfl) h0
  obtain ⟨a1, rfl, b1, c1⟩ := arg_int (hval 1 3 v1 rfl rfl) h1
  obtain ⟨a2, rfl, b2, c2⟩ := arg_int (hval 2 3 v2 rfl rfl) h2
  exact treeCommon_law v0 l0 a1 a2 W k0 ⟨b1, c1⟩ ⟨b2, c2⟩

theorem treeCommon_holds : Rows.TreeCommonSaid :=
  OpenClaim.holds_of_wide 8 Try.f8 rfl rfl rfl rfl rfl rfl rfl ⟨rfl, rfl, rfl, rfl, rfl⟩ rfl rfl rfl rfl rfl (by kernel_rfl) Try.func8 (by kernel_rfl)
    (of_decide_eq_true (by kernel_rfl)) (by unfold Func.isWrapper; first | (rw [if_pos (by decide +kernel)]; kernel_rfl) | (rw [if_neg (by decide +kernel)]; exact ⟨rfl, rfl⟩))
    (fun os started H enc _ => treeCommon_lifted os started H enc)
#print axioms treeCommon_holds

end Go.Proofs.Ytabelhoncmnpgaa
