/- The statement LedgerTells: of any blocks and any decisions: how many are settled, and both ledgers. No condition. -/
import Derived.Test.YtdoeoncmhaihbaaLgLa
import Derived.Test.YtdoeoncmhaihbaaLgArg
import Derived.Test.YtdoeoncmhaihbaaLgG
import Derived.Test.YtdoeoncmhaihbaaLotR
namespace Go.Proofs.Ytdoeoncmhaihbaa
set_option maxRecDepth 100000
open Go.RowKit Go.ChangeShapes Go.WideShapes Go.ChangeAt

set_option maxRecDepth 100000 in
set_option maxHeartbeats 6400000 in
theorem ledgerTells_law (v0 : Value) (l0 : List Int) (v1 : Value) (l : List BlkD) (v2 : Value) (xs : List Int) (W : World) (h00 : Ints W v0 l0) (hl0 : Recs 5 BlkL W v1 l) (hx0 : Ints W v2 xs) (hxI0 : I64s xs) :
    Calls Try.prog 5 #[v0, v1, v2] W fun e w' => e = .returned (.bool true) ∧ Ext W w' := by
  refine calls_keep ?_
  have h0 := hide_ h00
  have hbl := hide_ hl0
  have hxs := hide_ hx0
  have hxI := hide_ hxI0
  clear h00 hl0 hx0 hxI0
  by_cases hD0 : DrOk l0
  rotate_left
  · have e0 := hide_ (show lchk l0 = 101 from if_neg hD0)
    clear hD0
    go_enter Try.func5, Try.ntmps5
    go_wp2_with (first
      | go_big_skip
      | (go_at_call 10; refine (ledgerAlive_any _).mono ?_; rintro e w2 ⟨rfl, hX⟩)
      | (go_at_call 17; refine (refCheck_any (h0.out.ext hX)).mono ?_; rintro e w4 ⟨rfl, hx⟩; rw [e0.out]; replace hX := hX.trans hx; clear hx)
      | fail)
    go_ret
    exact Keep.intro ⟨rfl, hX⟩
  have e0 := hide_ (show lchk l0 = 0 from if_pos hD0)
  have hD := hide_ hD0
  by_cases hb1 : 40 < l.length
  · have t1 : decide ((40 : Int) < (l.length : Int)) = true := decide_eq_true (by omega)
    have t1' : decide ((l.length : Int) > 40) = true := decide_eq_true (by omega)
    clear hD0 hb1
    go_enter Try.func5, Try.ntmps5
    go_wp2_with ((first
      | go_big_skip
      | (go_at_call 10; refine (ledgerAlive_any _).mono ?_; rintro e w2 ⟨rfl, hX⟩)
      | (go_at_call 17; refine (refCheck_any (h0.out.ext hX)).mono ?_; rintro e w4 ⟨rfl, hx⟩; rw [e0.out]; replace hX := hX.trans hx; clear hx)
      | ((with_reducible refine at_bi ?_); (try refine w_yes _ _ _ rfl rfl rfl ?_); refine w_rlen Try.enBlk.elS _ rfl rfl rfl (hbl.out.ext BlkL.stays hX) ?_)
      | fail) <;> (try simp only [Act.put, List.setIfInBounds_toArray, List.set_cons_zero, List.set_cons_succ]))
    go_ret
    exact Keep.intro ⟨rfl, hX⟩
  have t1 : decide ((40 : Int) < (l.length : Int)) = false := decide_eq_false (by omega)
  have t1' : decide ((l.length : Int) > 40) = false := decide_eq_false (by omega)
  by_cases hb2 : 20 < xs.length
  · have t2 : decide ((20 : Int) < (xs.length : Int)) = true := decide_eq_true (by omega)
    have t2' : decide ((xs.length : Int) > 20) = true := decide_eq_true (by omega)
    clear hD0 hb1 hb2
    go_enter Try.func5, Try.ntmps5
    go_wp2_with ((first
      | go_big_skip
      | (go_at_call 10; refine (ledgerAlive_any _).mono ?_; rintro e w2 ⟨rfl, hX⟩)
      | (go_at_call 17; refine (refCheck_any (h0.out.ext hX)).mono ?_; rintro e w4 ⟨rfl, hx⟩; rw [e0.out]; replace hX := hX.trans hx; clear hx)
      | ((with_reducible refine at_bi ?_); (try refine w_yes _ _ _ rfl rfl rfl ?_); refine w_rlen Try.enBlk.elS _ rfl rfl rfl (hbl.out.ext BlkL.stays hX) ?_)
      | ((with_reducible refine at_bi ?_); (try refine w_yes _ _ _ rfl rfl rfl ?_); refine i_len _ rfl rfl rfl (hxs.out.ext hX) ?_)
      | fail) <;> (try simp only [Act.put, List.setIfInBounds_toArray, List.set_cons_zero, List.set_cons_succ]))
    go_ret
    exact Keep.intro ⟨rfl, hX⟩
  have t2 : decide ((20 : Int) < (xs.length : Int)) = false := decide_eq_false (by omega)
  have t2' : decide ((xs.length : Int) > 20) = false := decide_eq_false (by omega)
  have h40 := hide_ (show l.length ≤ 40 by omega)
  have h20 := hide_ (show xs.length ≤ 42 by omega)
  have hx20 := hide_ (show xs.length ≤ 20 by omega)
  have hbig := hide_ (show (([] : List Int).length + xs.length) * 8 ≤ 140737488355328 from by simp; omega)
  clear hD0 hb1 hb2
  go_enter Try.func5, Try.ntmps5

  go_wp2_with ((first
    | go_big_skip
    | (go_at_call 10; refine (ledgerAlive_any _).mono ?_; rintro e w2 ⟨rfl, hX⟩)
    | (go_at_call 17; refine (refCheck_any (h0.out.ext hX)).mono ?_; rintro e w4 ⟨rfl, hx⟩; rw [e0.out]; replace hX := hX.trans hx; clear hx)
    | (go_at_call 18; refine (grownL_any (h0.out.ext hX) hD.out (hbl.out.ext BlkL.stays hX)).mono ?_; rintro e w5 ⟨q, p, dv, vk, vw, H, rfl, hG⟩; replace hX := hX.trans hG.x)
    | ((with_reducible refine at_bi ?_); (try refine w_yes _ _ _ rfl rfl rfl ?_); refine w_rlen Try.enBlk.elS _ rfl rfl rfl (hbl.out.ext BlkL.stays hX) ?_)
    | ((with_reducible refine at_bi ?_); (try refine w_yes _ _ _ rfl rfl rfl ?_); refine i_len _ rfl rfl rfl (hxs.out.ext hX) ?_)
    | ((with_reducible refine at_alloc ?_); refine w_allocN Try.stDocC rfl rfl ?_; intro g8 w6 hg8 hx2 f8)
    | ((with_reducible refine at_store ?_); refine w_astoreN Try.stDocC (.tmp 8) _ (us := cRow vk vw v0 1 200) rfl rfl rfl rfl rfl f8 rfl rfl hG.one ?_; intro w7 hm3 f9; replace hx2 := hm3.after hx2 (fun i hi => by subst hi; exact hg8); replace f8 : Fs w7 g8 (cRow vk vw v0 1 200) := f9; replace hG := hG.ext hx2; replace hX := hX.trans hx2; clear hm3 f9 hx2 hg8)
    | ((with_reducible refine at_lit ?_); refine w_new Try.elI (i64s []) rfl rfl rfl (i64s_cells _) rfl (by omega) ?_; intro v5 w8 hx3 o5; replace o5 : OwnI _ w8 v5 [] := o5; have hs5 := hx3.size)
    | ((with_reducible refine at_bi ?_); refine appi _ _ rfl rfl rfl rfl o5 (hxs.out.ext (hX.trans hx3)) hbig.out hs5 ?_; intro vo w9 o9 hb9 hg9 hg9'; rw [List.nil_append] at o9; have Jo := hide_ o9.ints; have hx4 := hx3.trans' hb9; replace f8 := f8.ext hx4; replace hG := hG.ext hx4; replace hX := hX.trans hx4; clear hb9 hg9 hg9' hx3 hx4 hs5 o5 o9)
    | fail) <;> (try simp only [Act.put, List.setIfInBounds_toArray, List.set_cons_zero, List.set_cons_succ]))
  have hgo := gr_good l0 l
  have hU := hgo.uq
  obtain ⟨⟨K, V⟩, hK0⟩ : ∃ t, gr l0 l = t := ⟨_, rfl⟩
  have hC := hG.c
  have hkk := hG.kk
  rw [hK0] at hgo hU hC hkk
  have J2 := hide_ (hxs.out.ext hX)
  obtain ⟨n, hn0⟩ : ∃ n : Int, (settled K xs : Int) = n := ⟨_, rfl⟩
  obtain ⟨A, hA0⟩ : ∃ A, finL K xs = A := ⟨_, rfl⟩
  obtain ⟨B, hB0⟩ : ∃ B, avL K xs (backN (TrS.path K (TrS.tip K)) 1) = B := ⟨_, rfl⟩
  have hraw := hC.raw
  have hS1 := hide_ (fun w' (h : Ext w9 w') => hn0 ▸ Settled_any (hC.ext h) (Jo.out.ext h) hxI.out h20.out)
  have hS2 := hide_ (fun w' (h : Ext w9 w') => hn0 ▸ refSettled_any (vk := vk) (vw := vw) (dv := v0) (deep := 1) (slot := 200) (hkk.ext BlkR.stays h) (J2.out.ext h) h20.out)
  have hF1 := hide_ (fun w' (h : Ext w9 w') => hA0 ▸ Final_any (hC.ext h) (Jo.out.ext h) hxI.out h20.out)
  have hF2 := hide_ (fun w' (h : Ext w9 w') => hA0 ▸ refFinal_any (vk := vk) (vw := vw) (dv := v0) (deep := 1) (slot := 200) hU hraw (hkk.ext BlkR.stays h) (J2.out.ext h) h20.out)
  have hA1 := hide_ (fun w' (h : Ext w9 w') => hB0 ▸ Avail_any (hC.ext h) (Jo.out.ext h) hxI.out h20.out)
  have hA2 := hide_ (fun w' (h : Ext w9 w') => hB0 ▸ refAvail_any (vk := vk) (vw := vw) (dv := v0) (deep := 1) (slot := 200) hU hgo.room hraw (hkk.ext BlkR.stays h) (J2.out.ext h) h20.out)
  clear hgo hU hC hkk hK0 hn0 hA0 hB0 hraw hG
  refine wp_region_phx (by kernel_rfl) ?_; intro wd hxd; have F8 := f8.ext hxd
  refine Ph.rest 0 31 (by kernel_rfl) ?_
  refine LinL.step (s := (.val (.pointer (some ⟨q, 0, none⟩)))) [(7, none)] rfl (by kernel_rfl) (op_out 7 (.pointer (some ⟨q, 0, none⟩)) rfl (.inl rfl) rfl) ?_
  refine LinL.step (s := (.val (vo))) [(9, none)] rfl (by kernel_rfl) (op_out 9 (vo) rfl (.inl rfl) rfl) ?_
  refine LinL.step (s := (.val (.int .i64 n))) [(34, some 1), (35, some 0)] rfl (by kernel_rfl) (op_calls 14 #[(.tmp 34), (.tmp 35)] #[22, 25] (fun σ => #[.pointer (some ⟨q, 0, none⟩), vo]) rfl rfl (fun _ _ => rfl) fun σ w' hx hg => ⟨by have h34 : σ.tmps.getD 34 undef = .pointer (some ⟨q, 0, none⟩) := hg.1; have h35 : σ.tmps.getD 35 undef = vo := hg.2.1; simp only [List.map_toArray, List.map_cons, List.map_nil, Act.eval, h34, h35], retH (hS1.out w' (hxd.trans hx))⟩) ?_
  refine LinL.step (s := (.val (.agg #[vk, vw, v0, .int .i64 1, .int .i64 200]))) [(8, none)] rfl (by kernel_rfl) (op_runs rfl fun σ w' hx hg => ⟨_, runs_loadN (ρ := σ.eval) (w := w') Try.stDocC (.tmp 8) (us := cRow vk vw v0 1 200) rfl hg.1 (F8.ext hx) rfl self_at, rfl⟩) ?_
  refine LinL.step (s := (.val (v2))) [(2, none)] rfl (by kernel_rfl) (op_out 2 (v2) rfl (.inl rfl) rfl) ?_
  refine LinL.step (s := (.val (.int .i64 n))) [(37, some 1), (38, some 0)] rfl (by kernel_rfl) (op_calls 19 #[(.tmp 37), (.tmp 38)] #[38, 25] (fun σ => #[.agg #[vk, vw, v0, .int .i64 1, .int .i64 200], v2]) rfl rfl (fun _ _ => rfl) fun σ w' hx hg => ⟨by have h37 : σ.tmps.getD 37 undef = .agg #[vk, vw, v0, .int .i64 1, .int .i64 200] := hg.1; have h38 : σ.tmps.getD 38 undef = v2 := hg.2.1; simp only [List.map_toArray, List.map_cons, List.map_nil, Act.eval, h37, h38], retH (hS2.out w' (hxd.trans hx))⟩) ?_
  refine LinL.step (s := (.val (.bool true))) [(36, some 3), (39, some 0)] rfl (by kernel_rfl) (op_runs rfl fun σ w' hx hg => ⟨(.bool true), by have h36 : σ.tmps.getD 36 undef = .int .i64 n := hg.1; have h39 : σ.tmps.getD 39 undef = .int .i64 n := hg.2.1; unfold Runs execOp; simp [Act.eval, h36, h39, go_sem], rfl⟩) ?_
  refine LinL.step (s := (.val (.bool true))) [(40, some 0)] rfl (by kernel_rfl) (op_copy 40 0 (.val (.bool true)) rfl (.inl rfl) rfl) ?_
  refine LinL.step (s := (.val (.pointer (some ⟨q, 0, none⟩)))) [(7, none), (41, some 0)] rfl (by kernel_rfl) (op_yes (reads := [(7, none)]) 7 41 0 true rfl rfl rfl (op_out 7 (.pointer (some ⟨q, 0, none⟩)) rfl (.inl rfl) rfl)) ?_
  refine LinL.step (s := (.val (vo))) [(9, none), (41, some 1)] rfl (by kernel_rfl) (op_yes (reads := [(9, none)]) 7 41 1 true rfl rfl rfl (op_out 9 (vo) rfl (.inl rfl) rfl)) ?_
  refine LinL.step (s := (.sl (i64s A))) [(42, some 1), (43, some 0), (41, some 2)] rfl (by kernel_rfl) (op_yes (reads := [(42, some 1), (43, some 0)]) 7 41 2 true rfl rfl rfl (op_calls 12 #[(.tmp 42), (.tmp 43)] #[22, 25] (fun σ => #[.pointer (some ⟨q, 0, none⟩), vo]) rfl rfl (fun _ _ => rfl) fun σ w' hx hg => ⟨by have h42 : σ.tmps.getD 42 undef = .pointer (some ⟨q, 0, none⟩) := hg.1; have h43 : σ.tmps.getD 43 undef = vo := hg.2.1; simp only [List.map_toArray, List.map_cons, List.map_nil, Act.eval, h42, h43], retSl (hF1.out w' (hxd.trans hx))⟩)) ?_
  refine LinL.step (s := (.val (.agg #[vk, vw, v0, .int .i64 1, .int .i64 200]))) [(8, none), (41, some 3)] rfl (by kernel_rfl) (op_yes (reads := [(8, none)]) 7 41 3 true rfl rfl rfl (op_runs rfl fun σ w' hx hg => ⟨_, runs_loadN (ρ := σ.eval) (w := w') Try.stDocC (.tmp 8) (us := cRow vk vw v0 1 200) rfl hg.1 (F8.ext hx) rfl self_at, rfl⟩)) ?_
  refine LinL.step (s := (.val (v2))) [(2, none), (41, some 4)] rfl (by kernel_rfl) (op_yes (reads := [(2, none)]) 7 41 4 true rfl rfl rfl (op_out 2 (v2) rfl (.inl rfl) rfl)) ?_
  refine LinL.step (s := (.sl (i64s A))) [(45, some 1), (46, some 0), (41, some 5)] rfl (by kernel_rfl) (op_yes (reads := [(45, some 1), (46, some 0)]) 7 41 5 true rfl rfl rfl (op_calls 20 #[(.tmp 45), (.tmp 46)] #[38, 25] (fun σ => #[.agg #[vk, vw, v0, .int .i64 1, .int .i64 200], v2]) rfl rfl (fun _ _ => rfl) fun σ w' hx hg => ⟨by have h45 : σ.tmps.getD 45 undef = .agg #[vk, vw, v0, .int .i64 1, .int .i64 200] := hg.1; have h46 : σ.tmps.getD 46 undef = v2 := hg.2.1; simp only [List.map_toArray, List.map_cons, List.map_nil, Act.eval, h45, h46], retSl (hF2.out w' (hxd.trans hx))⟩)) ?_
  refine LinL.step (s := (.val (.bool true))) [(44, some 3), (47, some 0), (41, some 6)] rfl (by kernel_rfl) (op_yes (reads := [(44, some 3), (47, some 0)]) 7 41 6 true rfl rfl rfl (op_calls 15 #[(.tmp 44), (.tmp 47)] #[25, 25] (fun σ => #[σ.tmps.getD 44 undef, σ.tmps.getD 47 undef]) rfl rfl (fun _ _ => rfl) fun σ w' hx hg => ⟨by skip; simp only [List.map_toArray, List.map_cons, List.map_nil, Act.eval], retH (SameInts_any _ _ A _ hg.1 hg.2.1)⟩)) ?_
  refine LinL.step (s := (.val (.bool true))) [(41, some 7), (48, some 0)] rfl (by kernel_rfl) (op_runs rfl fun σ w' hx hg => ⟨_, runs_pick_t (ρ := σ.eval) (w := w') (.tmp 41) (.tmp 48) (.const (.bool false)) rfl hg.1 hg.2.1, rfl⟩) ?_
  refine LinL.step (s := (.val (.bool true))) [(49, some 0)] rfl (by kernel_rfl) (op_copy 49 0 (.val (.bool true)) rfl (.inl rfl) rfl) ?_
  refine LinL.step (s := (.val (.pointer (some ⟨q, 0, none⟩)))) [(7, none), (50, some 0)] rfl (by kernel_rfl) (op_yes (reads := [(7, none)]) 16 50 0 true rfl rfl rfl (op_out 7 (.pointer (some ⟨q, 0, none⟩)) rfl (.inl rfl) rfl)) ?_
  refine LinL.step (s := (.val (vo))) [(9, none), (50, some 1)] rfl (by kernel_rfl) (op_yes (reads := [(9, none)]) 16 50 1 true rfl rfl rfl (op_out 9 (vo) rfl (.inl rfl) rfl)) ?_
  refine LinL.step (s := (.sl (i64s B))) [(51, some 1), (52, some 0), (50, some 2)] rfl (by kernel_rfl) (op_yes (reads := [(51, some 1), (52, some 0)]) 16 50 2 true rfl rfl rfl (op_calls 13 #[(.tmp 51), (.tmp 52)] #[22, 25] (fun σ => #[.pointer (some ⟨q, 0, none⟩), vo]) rfl rfl (fun _ _ => rfl) fun σ w' hx hg => ⟨by have h51 : σ.tmps.getD 51 undef = .pointer (some ⟨q, 0, none⟩) := hg.1; have h52 : σ.tmps.getD 52 undef = vo := hg.2.1; simp only [List.map_toArray, List.map_cons, List.map_nil, Act.eval, h51, h52], retSl (hA1.out w' (hxd.trans hx))⟩)) ?_
  refine LinL.step (s := (.val (.agg #[vk, vw, v0, .int .i64 1, .int .i64 200]))) [(8, none), (50, some 3)] rfl (by kernel_rfl) (op_yes (reads := [(8, none)]) 16 50 3 true rfl rfl rfl (op_runs rfl fun σ w' hx hg => ⟨_, runs_loadN (ρ := σ.eval) (w := w') Try.stDocC (.tmp 8) (us := cRow vk vw v0 1 200) rfl hg.1 (F8.ext hx) rfl self_at, rfl⟩)) ?_
  refine LinL.step (s := (.val (v2))) [(2, none), (50, some 4)] rfl (by kernel_rfl) (op_yes (reads := [(2, none)]) 16 50 4 true rfl rfl rfl (op_out 2 (v2) rfl (.inl rfl) rfl)) ?_
  refine LinL.step (s := (.sl (i64s B))) [(54, some 1), (55, some 0), (50, some 5)] rfl (by kernel_rfl) (op_yes (reads := [(54, some 1), (55, some 0)]) 16 50 5 true rfl rfl rfl (op_calls 21 #[(.tmp 54), (.tmp 55)] #[38, 25] (fun σ => #[.agg #[vk, vw, v0, .int .i64 1, .int .i64 200], v2]) rfl rfl (fun _ _ => rfl) fun σ w' hx hg => ⟨by have h54 : σ.tmps.getD 54 undef = .agg #[vk, vw, v0, .int .i64 1, .int .i64 200] := hg.1; have h55 : σ.tmps.getD 55 undef = v2 := hg.2.1; simp only [List.map_toArray, List.map_cons, List.map_nil, Act.eval, h54, h55], retSl (hA2.out w' (hxd.trans hx))⟩)) ?_
  refine LinL.step (s := (.val (.bool true))) [(53, some 3), (56, some 0), (50, some 6)] rfl (by kernel_rfl) (op_yes (reads := [(53, some 3), (56, some 0)]) 16 50 6 true rfl rfl rfl (op_calls 15 #[(.tmp 53), (.tmp 56)] #[25, 25] (fun σ => #[σ.tmps.getD 53 undef, σ.tmps.getD 56 undef]) rfl rfl (fun _ _ => rfl) fun σ w' hx hg => ⟨by skip; simp only [List.map_toArray, List.map_cons, List.map_nil, Act.eval], retH (SameInts_any _ _ B _ hg.1 hg.2.1)⟩)) ?_
  refine LinL.step (s := (.val (.bool true))) [(50, some 7), (57, some 0)] rfl (by kernel_rfl) (op_runs rfl fun σ w' hx hg => ⟨_, runs_pick_t (ρ := σ.eval) (w := w') (.tmp 50) (.tmp 57) (.const (.bool false)) rfl hg.1 hg.2.1, rfl⟩) ?_
  refine LinL.step (s := (.val (.bool true))) [(58, some 0)] rfl (by kernel_rfl) (op_copy 58 0 (.val (.bool true)) rfl (.inl rfl) rfl) ?_
  refine LinL.step (s := (.val (vo))) [(9, none), (59, some 0)] rfl (by kernel_rfl) (op_yes (reads := [(9, none)]) 25 59 0 true rfl rfl rfl (op_out 9 (vo) rfl (.inl rfl) rfl)) ?_
  refine LinL.step (s := (.val (v2))) [(2, none), (59, some 1)] rfl (by kernel_rfl) (op_yes (reads := [(2, none)]) 25 59 1 true rfl rfl rfl (op_out 2 (v2) rfl (.inl rfl) rfl)) ?_
  refine LinL.step (s := (.val (.bool true))) [(60, some 1), (61, some 0), (59, some 2)] rfl (by kernel_rfl) (op_yes (reads := [(60, some 1), (61, some 0)]) 25 59 2 true rfl rfl rfl (op_calls 15 #[(.tmp 60), (.tmp 61)] #[25, 25] (fun σ => #[vo, v2]) rfl rfl (fun _ _ => rfl) fun σ w' hx hg => ⟨by have h60 : σ.tmps.getD 60 undef = vo := hg.1; have h61 : σ.tmps.getD 61 undef = v2 := hg.2.1; simp only [List.map_toArray, List.map_cons, List.map_nil, Act.eval, h60, h61], retH (SameInts_any _ _ xs _ (Jo.out.ext (hxd.trans hx)) (J2.out.ext (hxd.trans hx)))⟩)) ?_
  refine LinL.step (s := (.val (.bool true))) [(59, some 3), (62, some 0)] rfl (by kernel_rfl) (op_runs rfl fun σ w' hx hg => ⟨_, runs_pick_t (ρ := σ.eval) (w := w') (.tmp 59) (.tmp 62) (.const (.bool false)) rfl hg.1 hg.2.1, rfl⟩) ?_
  refine LinL.step (s := (.val (.bool true))) [(63, some 0)] rfl (by kernel_rfl) (op_copy 63 0 (.val (.bool true)) rfl (.inr rfl) rfl) ?_
  intro wN hxN
  simp only [Fin', List.reverse_cons, List.reverse_nil, List.nil_append, List.cons_append, List.drop_zero, List.take_succ_cons, List.take_zero]
  intro q44 hq44 q47 hq47 q53 hq53 q56 hq56
  simp only [Act.put, List.setIfInBounds_toArray, List.set_cons_zero, List.set_cons_succ]
  have hX9 := hX.trans (hxd.trans hxN)
  go_wp2
  go_ret
  exact Keep.intro ⟨rfl, hX9⟩

set_option maxRecDepth 100000 in
theorem ledgerTells_lifted (os : Os) (started : os.Started) (H : Type) (enc : TypeId × Value → H) :
    ReturnsInHanded {} Try.checked os 5 .any (Rows.ledgerTellsSpec.pre6 enc Try.prog Try.f5 Rows.ledgerTellsRow.domain false) (Rows.ledgerTellsSpec.post enc Try.prog Try.f5 false true false false) := by
  refine law_lifted (s := Rows.ledgerTellsSpec) (conds := Rows.ledgerTellsRow.domain) Try.func5 (by kernel_rfl) rfl (fun H ds h => by
      rw [show Try.f5.params.size = 3 from rfl] at h
      match ds, h with
      | [d0, d1, d2], _ => rfl) rfl rfl (by decide +kernel) os started H enc
    (ChangeSpec.witness6 (enc := enc) (C := Try.checked) false ⟨#[], #[.slice none 0 0, .slice none 0 0, .slice none 0 0], []⟩ 8 (by kernel_rfl) (by kernel_rfl) (by kernel_rfl) (by kernel_rfl)) ?_
  intro W base args ds p hval hA hsz _
  have hp : Try.f5.params.toList = [25, 33, 25] := rfl
  rw [hp] at hA hsz
  obtain ⟨v0, v1, v2, d0, d1, d2, p0, p1, p2, rfl, rfl, rfl, h0, h1, h2⟩ := trodAll_three hA
  obtain ⟨l0, a0, b0, c0⟩ := arg_ints hsz (j := 0) rfl rfl (hval 0 25 v0 rfl rfl) h0
  obtain ⟨l1, k1⟩ := arg_Blks hsz (j := 1) rfl rfl (hval 1 33 v1 rfl rfl) h1
  obtain ⟨l2, a2, b2, c2⟩ := arg_ints hsz (j := 2) rfl rfl (hval 2 25 v2 rfl rfl) h2
  exact ledgerTells_law v0 l0 v1 l1 v2 l2 W a0 k1 a2 b2

theorem ledgerTells_holds : Rows.LedgerTellsSaid :=
  OpenClaim.holds_of_wide 5 Try.f5 rfl rfl rfl rfl rfl rfl rfl ⟨rfl, rfl, rfl, rfl, rfl⟩ rfl rfl rfl rfl rfl (by kernel_rfl) Try.func5 (by kernel_rfl)
    (of_decide_eq_true (by kernel_rfl)) (by unfold Func.isWrapper; first | (rw [if_pos (by decide +kernel)]; kernel_rfl) | (rw [if_neg (by decide +kernel)]; exact ⟨rfl, rfl⟩))
    (fun os started H enc _ => ledgerTells_lifted os started H enc)
#print axioms ledgerTells_holds

end Go.Proofs.Ytdoeoncmhaihbaa
