/- The statement TallyStays: more votes unmake nothing. -/
import Derived.Test.YtmhmkaginnddeaaTlV
import Derived.Test.YtmhmkaginnddeaaTlRa
import Derived.Test.YtmhmkaginnddeaaArgI
namespace Go.Proofs.Ytmhmkaginnddeaa
set_option maxRecDepth 100000
open Go.RowKit Go.ChangeShapes Go.WideShapes Go.ChangeAt

set_option maxRecDepth 100000 in
set_option maxHeartbeats 12800000 in
theorem tallyStays_law (v0 v1 : Value) (t : List Int) (l : List VtD) (at' : Int) (W : World) (a0 : Ints W v0 t) (a1 : Recs 4 VtR W v1 l) (hat : In64 at') :
    Calls Try.prog 7 #[v0, v1, .int .i64 at'] W fun e w' => e = .returned (.bool true) ∧ Ext W w' := by
  refine calls_keep ?_
  have hs := hide_ a0
  have hl := hide_ a1
  have hX := Ext.refl W
  have hone := hide_ (Sl.one' a0)
  by_cases hst0 : StOk t
  rotate_left
  · have hck := hide_ (show (chk t : Int) = 31 from by rw [chk_no hst0]; rfl)
    clear hst0 a0 a1 hat
    go_enter Try.func7, Try.ntmps7
    go_wp2_with (first
      | go_big_skip
      | (go_at_call 12; refine (tallyAlive_any _).mono ?_; rintro e w7 ⟨rfl, hx⟩; replace hX := hX.trans hx; clear hx)
      | (go_at_call 15; refine (checkB (hs.out.ext hX) hck.out).mono ?_; rintro e w7 ⟨rfl, hx⟩; replace hX := hX.trans hx; clear hx)
      | fail)
    go_ret
    exact Keep.intro ⟨rfl, hX⟩
  have hck := hide_ (show (chk t : Int) = 0 from by rw [chk_ok hst0]; rfl)
  have hst := hide_ hst0
  have hfit := hide_ (show ∀ d ∈ l, d.Fit from Vts.fit a1)
  clear hst0 a0 a1
  by_cases hbig : 60 < l.length
  · have t0 : decide ((60 : Int) < (l.length : Int)) = true := by simp; omega
    clear hbig hat
    go_enter Try.func7, Try.ntmps7
    go_wp2_with ((first
      | go_big_skip
      | (go_at_call 12; refine (tallyAlive_any _).mono ?_; rintro e w7 ⟨rfl, hx⟩; replace hX := hX.trans hx; clear hx)
      | (go_at_call 15; refine (checkB (hs.out.ext hX) hck.out).mono ?_; rintro e w7 ⟨rfl, hx⟩; replace hX := hX.trans hx; clear hx)
      | ((with_reducible refine at_bi ?_); (try refine w_yes _ _ _ rfl rfl rfl ?_); refine w_rlen Try.elVt _ rfl rfl rfl (hl.out.ext VtR.stays hX) ?_)
      | fail) <;> (try simp only [Act.put, List.setIfInBounds_toArray, List.set_cons_zero, List.set_cons_succ]))
    go_ret
    exact Keep.intro ⟨rfl, hX⟩
  have t0 : decide ((60 : Int) < (l.length : Int)) = false := by simp; omega
  have h60 := hide_ (show l.length ≤ 60 from by omega)
  clear hbig
  by_cases hneg : at' < 0
  · have t1 : decide (at' < 0) = true := decide_eq_true hneg
    clear hneg hat
    go_enter Try.func7, Try.ntmps7
    go_wp2_with ((first
      | go_big_skip
      | (go_at_call 12; refine (tallyAlive_any _).mono ?_; rintro e w7 ⟨rfl, hx⟩; replace hX := hX.trans hx; clear hx)
      | (go_at_call 15; refine (checkB (hs.out.ext hX) hck.out).mono ?_; rintro e w7 ⟨rfl, hx⟩; replace hX := hX.trans hx; clear hx)
      | ((with_reducible refine at_bi ?_); (try refine w_yes _ _ _ rfl rfl rfl ?_); refine w_rlen Try.elVt _ rfl rfl rfl (hl.out.ext VtR.stays hX) ?_)
      | fail) <;> (try simp only [Act.put, List.setIfInBounds_toArray, List.set_cons_zero, List.set_cons_succ]))
    go_ret
    exact Keep.intro ⟨rfl, hX⟩
  have t1 : decide (at' < 0) = false := decide_eq_false hneg
  by_cases hfar : (l.length : Int) < at'
  · have t2 : decide ((l.length : Int) < at') = true := decide_eq_true hfar
    clear hneg hat hfar
    go_enter Try.func7, Try.ntmps7
    go_wp2_with ((first
      | go_big_skip
      | (go_at_call 12; refine (tallyAlive_any _).mono ?_; rintro e w7 ⟨rfl, hx⟩; replace hX := hX.trans hx; clear hx)
      | (go_at_call 15; refine (checkB (hs.out.ext hX) hck.out).mono ?_; rintro e w7 ⟨rfl, hx⟩; replace hX := hX.trans hx; clear hx)
      | ((with_reducible refine at_bi ?_); (try refine w_yes _ _ _ rfl rfl rfl ?_); refine w_rlen Try.elVt _ rfl rfl rfl (hl.out.ext VtR.stays hX) ?_)
      | fail) <;> (try simp only [Act.put, List.setIfInBounds_toArray, List.set_cons_zero, List.set_cons_succ]))
    go_ret
    exact Keep.intro ⟨rfl, hX⟩
  obtain ⟨c, rfl⟩ : ∃ c : Nat, at' = (c : Int) := ⟨at'.toNat, by omega⟩
  have hcl := hide_ (show c ≤ l.length from by omega)
  have hc60 : c ≤ 60 := by have := hcl.out; have := h60.out; omega
  have t2 : decide (l.length < c) = false := decide_eq_false (by omega)
  have t3 : decide ((l.length : Int) < (c : Int)) = false := decide_eq_false (by omega)
  have t4 : decide ((c : Int) < 0) = false := decide_eq_false (by omega)
  clear hneg hat hfar t1
  obtain ⟨A, hA0⟩ : ∃ A, ofV (votesOf t.length (l.take c)) = A := ⟨_, rfl⟩
  obtain ⟨B, hB0⟩ : ∃ B, ofV (votesOf t.length l) = B := ⟨_, rfl⟩
  have hAB := hide_ (show Tab.Le A B from by rw [← hA0, ← hB0]; exact votesOf_take _ _ _)
  have hA := hide_ hA0
  obtain ⟨M, hM0⟩ : ∃ M, l.take c = M := ⟨_, rfl⟩
  have hM := hide_ hM0
  have hMl := hide_ (show M.length = c from by rw [← hM0, List.length_take]; have := hcl.out; omega)
  have hMf := hide_ (show ∀ d ∈ M, d.Fit from fun d hd => hfit.out d (List.mem_of_mem_take (hM0 ▸ hd)))
  clear hM0
  have hB := hide_ hB0
  clear hA0 hB0
  go_enter Try.func7, Try.ntmps7
  go_wp2_with ((first
    | go_big_skip
    | (go_at_call 12; refine (tallyAlive_any _).mono ?_; rintro e w7 ⟨rfl, hx⟩; replace hX := hX.trans hx; clear hx)
    | (go_at_call 15; refine (checkB (hs.out.ext hX) hck.out).mono ?_; rintro e w7 ⟨rfl, hx⟩; replace hX := hX.trans hx; clear hx)
    | ((with_reducible refine at_bi ?_); (try refine w_yes _ _ _ rfl rfl rfl ?_); refine w_rlen Try.elVt _ rfl rfl rfl (hl.out.ext VtR.stays hX) ?_)
    | ((with_reducible refine at_cut ?_); refine w_nto0 (W0 := W) Try.elVt _ _ c rfl rfl rfl rfl hl.out hcl.out ?_; intro v47 hl47; rw [hM.out] at hl47; have hM1 := hide_ hl47)
    | (go_at_call 16; refine (countedS (hs.out.ext hX) hst.out (hl47.ext VtR.stays hX) (by rw [hMl.out]; omega) hX).mono ?_; rintro e w3 ⟨p1, u1, rfl, hT1, hu1, hx⟩; rw [← hM.out, hA.out, hM.out, hMl.out] at hT1; have ou1 := hide_ hu1.one; clear hl47 hM1 hu1; replace hX := hX.trans hx; clear hx)
    | (go_at_call 16; refine (countedS (hs.out.ext hX) hst.out (hl.out.ext VtR.stays hX) (by have := h60.out; omega) hX).mono ?_; rintro e w3 ⟨p2, u2, rfl, hT2, hu2, hx⟩; rw [hB.out] at hT2; have ou2 := hide_ hu2.one; clear hu2; replace hT1 := hT1.ext hx; replace hX := hX.trans hx; clear hx)
    | ((with_reducible refine at_bi ?_); refine w_rlen Try.elVt _ rfl rfl rfl (hl47.ext VtR.stays hX) ?_)
    | ((with_reducible refine at_ext ?_); refine wpList_runs rfl (runs_extract rfl rfl rfl) ?_; simp only [List.getElem_toArray, List.getElem_cons_succ, List.getElem_cons_zero])
    | ((with_reducible refine at_alloc ?_); refine w_alloc (o := ⟨some 8, _, _, _, _, _⟩) Try.stTy rfl rfl ?_; intro b8 w4 hb8 hx8 f8)
    | ((with_reducible refine at_alloc ?_); refine w_alloc (o := ⟨some 11, _, _, _, _, _⟩) Try.stTy rfl rfl ?_; intro b11 w4 hb8 hx8 f8)
    | ((with_reducible refine at_store ?_); refine w_astore Try.stTy (us := [v0, u1]) _ _ rfl rfl rfl rfl rfl f8 rfl rfl (by intro z hz; simp at hz; rcases hz with rfl | rfl; exact hone.out; exact ou1.out) ?_; intro w5 hm5 _; have hx := hm5.after hx8 (fun i e => by have e' : i = b8 := e; rw [e']; exact hb8); replace hT1 := hT1.ext hx; replace hX := hX.trans hx; clear hx hm5 hx8 hb8 f8)
    | ((with_reducible refine at_store ?_); refine w_astore Try.stTy (us := [v0, u2]) _ _ rfl rfl rfl rfl rfl f8 rfl rfl (by intro z hz; simp at hz; rcases hz with rfl | rfl; exact hone.out; exact ou2.out) ?_; intro w5 hm5 _; have hx := hm5.after hx8 (fun i e => by have e' : i = b11 := e; rw [e']; exact hb8); replace hT1 := hT1.ext hx; replace hT2 := hT2.ext hx; replace hX := hX.trans hx; clear hx hm5 hx8 hb8 f8)
    | fail) <;> (try simp only [Act.put, List.setIfInBounds_toArray, List.set_cons_zero, List.set_cons_succ]))
  have hT1' := hide_ hT1
  have hT2' := hide_ hT2
  have hX1 := hide_ hX
  have hN1 := hide_ (show c ≤ 60 from hc60)
  have hN2 := h60
  have hML := hide_ (show Recs 4 VtR W v47 M from hM1.out)
  clear hl47 hM1 hT1 hT2
  have hT1 := hT1'
  have hT2 := hT2'
  clear hT1' hT2'
  have hM1 := hML
  clear hML
  go_loopw [63] (fun u63 wr => ∃ i : Nat, u63 = .int .i64 i ∧ i ≤ M.length ∧ Ext w5 wr) (fun i _ => M.length - (intOf i).toNat)
  case atStart => exact ⟨0, rfl, Nat.zero_le _, Ext.refl _⟩
  case round =>
    clear hX
    obtain ⟨i, rfl, hi, hY⟩ := hrel
    have hX := hX1.out.trans hY
    by_cases hlt0 : i < M.length
    · have hlt := hide_ hlt0
      have tl : decide (i < M.length) = true := decide_eq_true hlt0
      have hi7 : i ≤ 60 := by have := hMl.out; omega
      obtain ⟨d, hd0⟩ : ∃ d, M[i] = d := ⟨_, rfl⟩
      have hd := hide_ hd0
      have hdf := hide_ (hd0 ▸ hMf.out _ (List.getElem_mem hlt0) : d.Fit)
      obtain ⟨n1, hn10⟩ : ∃ n1, A.aheadOf t d.w = n1 := ⟨_, rfl⟩
      obtain ⟨n2, hn20⟩ : ∃ n2, B.aheadOf t d.w = n2 := ⟨_, rfl⟩
      have hahd := hide_ (show decide (n2 < n1) = false from decide_eq_false (by have := hAB.out.ahead hst.out d.w; omega))
      have hn1 := hide_ hn10
      have hn2 := hide_ hn20
      obtain ⟨r1, hr10⟩ : ∃ r1, A.mostOf t d.k d.w = r1 := ⟨_, rfl⟩
      obtain ⟨r2, hr20⟩ : ∃ r2, B.mostOf t d.k d.w = r2 := ⟨_, rfl⟩
      have hr2 := hide_ hr20
      have hmm := hide_ (show ∀ y, r1 = some y → r2 = some y from fun y e => by
        rw [← hr20, Tab.mostOf_iff hst.out]
        rw [← hr10, Tab.mostOf_iff hst.out] at e
        exact hAB.out.mst hst.out e)
      have hr1 := hide_ hr10
      clear hd0 hlt0 hn10 hn20 hr10 hr20
      cases r1 with
      | none =>
        obtain ⟨y2, hy20⟩ : ∃ y2, r2.getD 0 = y2 := ⟨_, rfl⟩
        obtain ⟨q2, hq20⟩ : ∃ q2, r2.isSome = q2 := ⟨_, rfl⟩
        have hy2 := hide_ hy20
        have hq2 := hide_ hq20
        clear hy20 hq20
        have tokA : True := trivial
        go_wp2_with ((first
          | go_big_skip
          | ((with_reducible refine at_idx ?_); refine w_ridx0 (W0 := W) Try.elVt _ _ i VtR.stays rfl rfl rfl rfl hM1.out hX hlt.out ?_; rintro pq row hrow hrl hre; obtain ⟨rfl, _⟩ := (congrArg (fun z => VtR W row z) hd.out).mp hre)
          | ((with_reducible refine at_load ?_); refine w_pload Try.stVt _ rfl rfl rfl (hrow.ext hX) hrl ?_)
          | ((with_reducible refine at_alloc ?_); refine w_alloc (o := ⟨some 14, _, _, _, _, _⟩) Try.stVt rfl rfl ?_; intro b14 w4 hg hx4 f14; have hwX := hide_ hX; have hgx := hide_ hg)
          | ((with_reducible refine at_store ?_); refine w_astore Try.stVt (us := vrow d) _ _ rfl rfl rfl rfl rfl f14 rfl rfl (vt_one d) ?_; intro w5 hm5 f5; replace f14 := f5; replace hX := hX.trans (hm5.after hx4 (fun i e => e ▸ hg)); replace hY := hY.trans (hm5.after hx4 (fun i e => e ▸ hg)); clear f5 hm5 hx4 hg hrow)
          | ((with_reducible refine at_field ?_); refine w_field Try.stVt _ _ _ rfl rfl rfl (by omega) ?_)
          | ((with_reducible refine at_load ?_); refine w_fload _ rfl rfl rfl f14 rfl (agg_of (by kernel_rfl)) ?_)
          | (have _t := tokA; go_at_call 11; clear tokA _t; refine (TMost_any (p := p1) (hT1.out.ext hY) (by have := hN1.out; omega) hdf.out.k hdf.out.w hr1.out).mono ?_; rintro e w7 ⟨he, hx⟩; replace he : e = .returned (.tuple #[.int .i64 0, .bool false]) := he; subst he; replace f14 := f14.ext hx; replace hY := hY.trans hx; replace hX := hX.trans hx; clear hx)
          | (go_at_call 11; refine (TMost_any (p := p2) (hT2.out.ext hY) (by have := hN2.out; omega) hdf.out.k hdf.out.w hr2.out).mono ?_; rintro e w7 ⟨he, hx⟩; rw [hy2.out, hq2.out] at he; subst he; replace f14 := f14.ext hx; replace hY := hY.trans hx; replace hX := hX.trans hx; clear hx)
          | ((with_reducible refine at_ext ?_); refine wpList_runs rfl (runs_extract rfl rfl rfl) ?_; simp only [List.getElem_toArray, List.getElem_cons_succ, List.getElem_cons_zero])
          | fail) <;> (try simp only [Act.put, List.setIfInBounds_toArray, List.set_cons_zero, List.set_cons_succ]))
        have hT1r := TalS.ext hT1.out hY
        have hT2r := TalS.ext hT2.out hY
        refine wp_region_phx (by kernel_rfl) ?_; intro wd hxd; have F14 := f14.ext hxd; have H1 := hT1r.ext hxd; have H2 := hT2r.ext hxd
        refine Ph.rest 0 21 (by kernel_rfl) ?_
        refine LinL.step (s := (.val (.bool false))) [(16, none)] rfl (by kernel_rfl) (op_out 16 (.bool false) rfl (.inl rfl) rfl) ?_
        refine LinL.step (s := (.val (.bool false))) [(85, some 0)] rfl (by kernel_rfl) (op_copy 85 0 (.val (.bool false)) rfl (.inl rfl) rfl) ?_
        refine LinL.step (s := .val undef) [(18, none), (86, some 0)] rfl (by kernel_rfl) (op_no (reads := [(18, none)]) 1 86 0 true rfl rfl rfl) ?_
        refine LinL.step (s := .val undef) [(87, some 0), (86, some 1)] rfl (by kernel_rfl) (op_no (reads := [(87, some 0)]) 1 86 1 true rfl rfl rfl) ?_
        refine LinL.step (s := .val undef) [(88, some 0), (86, some 2)] rfl (by kernel_rfl) (op_no (reads := [(88, some 0)]) 1 86 2 true rfl rfl rfl) ?_
        refine LinL.step (s := .val undef) [(15, none), (89, some 0)] rfl (by kernel_rfl) (op_no' (reads := [(15, none)]) 4 89 0 false rfl rfl rfl) ?_
        refine LinL.step (s := .val undef) [(17, none), (89, some 1)] rfl (by kernel_rfl) (op_no' (reads := [(17, none)]) 4 89 1 false rfl rfl rfl) ?_
        refine LinL.step (s := .val undef) [(90, some 1), (91, some 0), (89, some 2)] rfl (by kernel_rfl) (op_no' (reads := [(90, some 1), (91, some 0)]) 4 89 2 false rfl rfl rfl) ?_
        refine LinL.step (s := .val undef) [(89, some 3), (92, some 0), (86, some 6)] rfl (by kernel_rfl) (op_no (reads := [(89, some 3), (92, some 0)]) 1 86 6 true rfl rfl rfl) ?_
        refine LinL.step (s := (.val (.bool false))) [(86, some 7), (93, some 0)] rfl (by kernel_rfl) (op_runs rfl fun σ w' hx hg => ⟨_, runs_pick_f (ρ := σ.eval) (w := w') (.tmp 86) (.tmp 93) (.const (.bool false)) rfl hg.1 rfl, rfl⟩) ?_
        refine LinL.step (s := (.val (.bool false))) [(94, some 0)] rfl (by kernel_rfl) (op_copy 94 0 (.val (.bool false)) rfl (.inl rfl) rfl) ?_
        refine LinL.step (s := (.val (.pointer (some ⟨p1, 0, none⟩)))) [(7, none), (95, some 0)] rfl (by kernel_rfl) (op_yes (reads := [(7, none)]) 10 95 0 false rfl rfl rfl (op_out 7 (.pointer (some ⟨p1, 0, none⟩)) rfl (.inl rfl) rfl)) ?_
        refine LinL.step (s := (.val (.pointer (some ⟨b14, 1, none⟩)))) [(14, none), (95, some 1)] rfl (by kernel_rfl) (op_yes (reads := [(14, none)]) 10 95 1 false rfl rfl rfl (op_runs rfl fun σ w' hx hg => ⟨_, runs_field (ρ := σ.eval) (w := w') Try.stVt (.tmp 14) b14 1 rfl hg.1 (by omega), rfl⟩)) ?_
        refine LinL.step (s := (.val (.int .i64 d.w))) [(97, some 0), (95, some 2)] rfl (by kernel_rfl) (op_yes (reads := [(97, some 0)]) 10 95 2 false rfl rfl rfl (op_runs rfl fun σ w' hx hg => ⟨_, runs_fload (ρ := σ.eval) (w := w') (.tmp 97) rfl hg.1 (agg_of (by kernel_rfl) _) (F14.ext hx) rfl, rfl⟩)) ?_
        refine LinL.step (s := (.val (.int .i64 n1))) [(96, some 2), (98, some 0), (95, some 3)] rfl (by kernel_rfl) (op_yes (reads := [(96, some 2), (98, some 0)]) 10 95 3 false rfl rfl rfl (op_calls 13 #[(.tmp 96), (.tmp 98)] #[22, 3] (fun σ => #[.pointer (some ⟨p1, 0, none⟩), .int .i64 d.w]) rfl rfl (fun _ _ => rfl) fun σ w' hx hg => ⟨by have h96 : σ.tmps.getD 96 undef = .pointer (some ⟨p1, 0, none⟩) := hg.1; have h98 : σ.tmps.getD 98 undef = .int .i64 d.w := hg.2.1; simp only [List.map_toArray, List.map_cons, List.map_nil, Act.eval, h96, h98], aheadR (H1.ext hx) (by have := hN1.out; omega) hn1.out⟩)) ?_
        refine LinL.step (s := (.val (.pointer (some ⟨p2, 0, none⟩)))) [(10, none), (95, some 4)] rfl (by kernel_rfl) (op_yes (reads := [(10, none)]) 10 95 4 false rfl rfl rfl (op_out 10 (.pointer (some ⟨p2, 0, none⟩)) rfl (.inl rfl) rfl)) ?_
        refine LinL.step (s := (.val (.pointer (some ⟨b14, 1, none⟩)))) [(14, none), (95, some 5)] rfl (by kernel_rfl) (op_yes (reads := [(14, none)]) 10 95 5 false rfl rfl rfl (op_runs rfl fun σ w' hx hg => ⟨_, runs_field (ρ := σ.eval) (w := w') Try.stVt (.tmp 14) b14 1 rfl hg.1 (by omega), rfl⟩)) ?_
        refine LinL.step (s := (.val (.int .i64 d.w))) [(101, some 0), (95, some 6)] rfl (by kernel_rfl) (op_yes (reads := [(101, some 0)]) 10 95 6 false rfl rfl rfl (op_runs rfl fun σ w' hx hg => ⟨_, runs_fload (ρ := σ.eval) (w := w') (.tmp 101) rfl hg.1 (agg_of (by kernel_rfl) _) (F14.ext hx) rfl, rfl⟩)) ?_
        refine LinL.step (s := (.val (.int .i64 n2))) [(100, some 2), (102, some 0), (95, some 7)] rfl (by kernel_rfl) (op_yes (reads := [(100, some 2), (102, some 0)]) 10 95 7 false rfl rfl rfl (op_calls 13 #[(.tmp 100), (.tmp 102)] #[22, 3] (fun σ => #[.pointer (some ⟨p2, 0, none⟩), .int .i64 d.w]) rfl rfl (fun _ _ => rfl) fun σ w' hx hg => ⟨by have h100 : σ.tmps.getD 100 undef = .pointer (some ⟨p2, 0, none⟩) := hg.1; have h102 : σ.tmps.getD 102 undef = .int .i64 d.w := hg.2.1; simp only [List.map_toArray, List.map_cons, List.map_nil, Act.eval, h100, h102], aheadR (H2.ext hx) (by have := hN2.out; omega) hn2.out⟩)) ?_
        refine LinL.step (s := (.val (.bool false))) [(99, some 4), (103, some 0), (95, some 8)] rfl (by kernel_rfl) (op_yes (reads := [(99, some 4), (103, some 0)]) 10 95 8 false rfl rfl rfl (op_runs rfl fun σ w' hx hg => ⟨(.bool false), by have h99 : σ.tmps.getD 99 undef = .int .i64 n1 := hg.1; have h103 : σ.tmps.getD 103 undef = .int .i64 n2 := hg.2.1; unfold Runs execOp; simp [Act.eval, h99, h103, go_sem, hahd.out], rfl⟩)) ?_
        refine LinL.step (s := (.val (.bool false))) [(95, some 9), (104, some 0)] rfl (by kernel_rfl) (op_runs rfl fun σ w' hx hg => ⟨_, runs_pick_f (ρ := σ.eval) (w := w') (.tmp 95) (.const (.bool true)) (.tmp 104) rfl hg.1 hg.2.1, rfl⟩) ?_
        intro wN hxN
        simp only [Fin', List.reverse_cons, List.reverse_nil, List.nil_append, List.cons_append, List.drop_zero, List.take_succ_cons, List.take_zero]
        simp only [Act.put, List.setIfInBounds_toArray, List.set_cons_zero, List.set_cons_succ]
        replace hY := hY.trans (hxd.trans hxN)
        replace hX := hX.trans (hxd.trans hxN)
        go_wp2
        go_roundw
        case rel => exact ⟨i + 1, by go_num, by have := hlt.out; omega, hY⟩
        case measure => have := hlt.out; simp [intOf]; omega
      | some y =>
        have e2 := hmm.out y rfl
        subst e2
        have tokA : True := trivial
        go_wp2_with ((first
          | go_big_skip
          | ((with_reducible refine at_idx ?_); refine w_ridx0 (W0 := W) Try.elVt _ _ i VtR.stays rfl rfl rfl rfl hM1.out hX hlt.out ?_; rintro pq row hrow hrl hre; obtain ⟨rfl, _⟩ := (congrArg (fun z => VtR W row z) hd.out).mp hre)
          | ((with_reducible refine at_load ?_); refine w_pload Try.stVt _ rfl rfl rfl (hrow.ext hX) hrl ?_)
          | ((with_reducible refine at_alloc ?_); refine w_alloc (o := ⟨some 14, _, _, _, _, _⟩) Try.stVt rfl rfl ?_; intro b14 w4 hg hx4 f14; have hwX := hide_ hX; have hgx := hide_ hg)
          | ((with_reducible refine at_store ?_); refine w_astore Try.stVt (us := vrow d) _ _ rfl rfl rfl rfl rfl f14 rfl rfl (vt_one d) ?_; intro w5 hm5 f5; replace f14 := f5; replace hX := hX.trans (hm5.after hx4 (fun i e => e ▸ hg)); replace hY := hY.trans (hm5.after hx4 (fun i e => e ▸ hg)); clear f5 hm5 hx4 hg hrow)
          | ((with_reducible refine at_field ?_); refine w_field Try.stVt _ _ _ rfl rfl rfl (by omega) ?_)
          | ((with_reducible refine at_load ?_); refine w_fload _ rfl rfl rfl f14 rfl (agg_of (by kernel_rfl)) ?_)
          | (have _t := tokA; go_at_call 11; clear tokA _t; refine (TMost_any (p := p1) (hT1.out.ext hY) (by have := hN1.out; omega) hdf.out.k hdf.out.w hr1.out).mono ?_; rintro e w7 ⟨he, hx⟩; replace he : e = .returned (.tuple #[.int .i64 y, .bool true]) := he; subst he; replace f14 := f14.ext hx; replace hY := hY.trans hx; replace hX := hX.trans hx; clear hx)
          | (go_at_call 11; refine (TMost_any (p := p2) (hT2.out.ext hY) (by have := hN2.out; omega) hdf.out.k hdf.out.w hr2.out).mono ?_; rintro e w7 ⟨he, hx⟩; replace he : e = .returned (.tuple #[.int .i64 y, .bool true]) := he; subst he; replace f14 := f14.ext hx; replace hY := hY.trans hx; replace hX := hX.trans hx; clear hx)
          | ((with_reducible refine at_ext ?_); refine wpList_runs rfl (runs_extract rfl rfl rfl) ?_; simp only [List.getElem_toArray, List.getElem_cons_succ, List.getElem_cons_zero])
          | fail) <;> (try simp only [Act.put, List.setIfInBounds_toArray, List.set_cons_zero, List.set_cons_succ]))
        have hT1r := TalS.ext hT1.out hY
        have hT2r := TalS.ext hT2.out hY
        refine wp_region_phx (by kernel_rfl) ?_; intro wd hxd; have F14 := f14.ext hxd; have H1 := hT1r.ext hxd; have H2 := hT2r.ext hxd
        refine Ph.rest 0 21 (by kernel_rfl) ?_
        refine LinL.step (s := (.val (.bool true))) [(16, none)] rfl (by kernel_rfl) (op_out 16 (.bool true) rfl (.inl rfl) rfl) ?_
        refine LinL.step (s := (.val (.bool true))) [(85, some 0)] rfl (by kernel_rfl) (op_copy 85 0 (.val (.bool true)) rfl (.inl rfl) rfl) ?_
        refine LinL.step (s := (.val (.bool true))) [(18, none), (86, some 0)] rfl (by kernel_rfl) (op_yes (reads := [(18, none)]) 1 86 0 true rfl rfl rfl (op_out 18 (.bool true) rfl (.inl rfl) rfl)) ?_
        refine LinL.step (s := (.val (.bool false))) [(87, some 0), (86, some 1)] rfl (by kernel_rfl) (op_yes (reads := [(87, some 0)]) 1 86 1 true rfl rfl rfl (op_runs rfl fun σ w' hx hg => ⟨(.bool false), by have h87 : σ.tmps.getD 87 undef = .bool true := hg.1; unfold Runs execOp; simp [Act.eval, h87, go_sem], rfl⟩)) ?_
        refine LinL.step (s := (.val (.bool false))) [(88, some 0), (86, some 2)] rfl (by kernel_rfl) (op_yes (reads := [(88, some 0)]) 1 86 2 true rfl rfl rfl (op_copy 88 0 (.val (.bool false)) rfl (.inl rfl) rfl)) ?_
        refine LinL.step (s := (.val (.int .i64 y))) [(15, none), (89, some 0)] rfl (by kernel_rfl) (op_yes (reads := [(15, none)]) 4 89 0 false rfl rfl rfl (op_out 15 (.int .i64 y) rfl (.inl rfl) rfl)) ?_
        refine LinL.step (s := (.val (.int .i64 y))) [(17, none), (89, some 1)] rfl (by kernel_rfl) (op_yes (reads := [(17, none)]) 4 89 1 false rfl rfl rfl (op_out 17 (.int .i64 y) rfl (.inl rfl) rfl)) ?_
        refine LinL.step (s := (.val (.bool false))) [(90, some 1), (91, some 0), (89, some 2)] rfl (by kernel_rfl) (op_yes (reads := [(90, some 1), (91, some 0)]) 4 89 2 false rfl rfl rfl (op_runs rfl fun σ w' hx hg => ⟨(.bool false), by have h90 : σ.tmps.getD 90 undef = .int .i64 y := hg.1; have h91 : σ.tmps.getD 91 undef = .int .i64 y := hg.2.1; unfold Runs execOp; simp [Act.eval, h90, h91, go_sem], rfl⟩)) ?_
        refine LinL.step (s := (.val (.bool false))) [(89, some 3), (92, some 0), (86, some 6)] rfl (by kernel_rfl) (op_yes (reads := [(89, some 3), (92, some 0)]) 1 86 6 true rfl rfl rfl (op_runs rfl fun σ w' hx hg => ⟨_, runs_pick_f (ρ := σ.eval) (w := w') (.tmp 89) (.const (.bool true)) (.tmp 92) rfl hg.1 hg.2.1, rfl⟩)) ?_
        refine LinL.step (s := (.val (.bool false))) [(86, some 7), (93, some 0)] rfl (by kernel_rfl) (op_runs rfl fun σ w' hx hg => ⟨_, runs_pick_t (ρ := σ.eval) (w := w') (.tmp 86) (.tmp 93) (.const (.bool false)) rfl hg.1 hg.2.1, rfl⟩) ?_
        refine LinL.step (s := (.val (.bool false))) [(94, some 0)] rfl (by kernel_rfl) (op_copy 94 0 (.val (.bool false)) rfl (.inl rfl) rfl) ?_
        refine LinL.step (s := (.val (.pointer (some ⟨p1, 0, none⟩)))) [(7, none), (95, some 0)] rfl (by kernel_rfl) (op_yes (reads := [(7, none)]) 10 95 0 false rfl rfl rfl (op_out 7 (.pointer (some ⟨p1, 0, none⟩)) rfl (.inl rfl) rfl)) ?_
        refine LinL.step (s := (.val (.pointer (some ⟨b14, 1, none⟩)))) [(14, none), (95, some 1)] rfl (by kernel_rfl) (op_yes (reads := [(14, none)]) 10 95 1 false rfl rfl rfl (op_runs rfl fun σ w' hx hg => ⟨_, runs_field (ρ := σ.eval) (w := w') Try.stVt (.tmp 14) b14 1 rfl hg.1 (by omega), rfl⟩)) ?_
        refine LinL.step (s := (.val (.int .i64 d.w))) [(97, some 0), (95, some 2)] rfl (by kernel_rfl) (op_yes (reads := [(97, some 0)]) 10 95 2 false rfl rfl rfl (op_runs rfl fun σ w' hx hg => ⟨_, runs_fload (ρ := σ.eval) (w := w') (.tmp 97) rfl hg.1 (agg_of (by kernel_rfl) _) (F14.ext hx) rfl, rfl⟩)) ?_
        refine LinL.step (s := (.val (.int .i64 n1))) [(96, some 2), (98, some 0), (95, some 3)] rfl (by kernel_rfl) (op_yes (reads := [(96, some 2), (98, some 0)]) 10 95 3 false rfl rfl rfl (op_calls 13 #[(.tmp 96), (.tmp 98)] #[22, 3] (fun σ => #[.pointer (some ⟨p1, 0, none⟩), .int .i64 d.w]) rfl rfl (fun _ _ => rfl) fun σ w' hx hg => ⟨by have h96 : σ.tmps.getD 96 undef = .pointer (some ⟨p1, 0, none⟩) := hg.1; have h98 : σ.tmps.getD 98 undef = .int .i64 d.w := hg.2.1; simp only [List.map_toArray, List.map_cons, List.map_nil, Act.eval, h96, h98], aheadR (H1.ext hx) (by have := hN1.out; omega) hn1.out⟩)) ?_
        refine LinL.step (s := (.val (.pointer (some ⟨p2, 0, none⟩)))) [(10, none), (95, some 4)] rfl (by kernel_rfl) (op_yes (reads := [(10, none)]) 10 95 4 false rfl rfl rfl (op_out 10 (.pointer (some ⟨p2, 0, none⟩)) rfl (.inl rfl) rfl)) ?_
        refine LinL.step (s := (.val (.pointer (some ⟨b14, 1, none⟩)))) [(14, none), (95, some 5)] rfl (by kernel_rfl) (op_yes (reads := [(14, none)]) 10 95 5 false rfl rfl rfl (op_runs rfl fun σ w' hx hg => ⟨_, runs_field (ρ := σ.eval) (w := w') Try.stVt (.tmp 14) b14 1 rfl hg.1 (by omega), rfl⟩)) ?_
        refine LinL.step (s := (.val (.int .i64 d.w))) [(101, some 0), (95, some 6)] rfl (by kernel_rfl) (op_yes (reads := [(101, some 0)]) 10 95 6 false rfl rfl rfl (op_runs rfl fun σ w' hx hg => ⟨_, runs_fload (ρ := σ.eval) (w := w') (.tmp 101) rfl hg.1 (agg_of (by kernel_rfl) _) (F14.ext hx) rfl, rfl⟩)) ?_
        refine LinL.step (s := (.val (.int .i64 n2))) [(100, some 2), (102, some 0), (95, some 7)] rfl (by kernel_rfl) (op_yes (reads := [(100, some 2), (102, some 0)]) 10 95 7 false rfl rfl rfl (op_calls 13 #[(.tmp 100), (.tmp 102)] #[22, 3] (fun σ => #[.pointer (some ⟨p2, 0, none⟩), .int .i64 d.w]) rfl rfl (fun _ _ => rfl) fun σ w' hx hg => ⟨by have h100 : σ.tmps.getD 100 undef = .pointer (some ⟨p2, 0, none⟩) := hg.1; have h102 : σ.tmps.getD 102 undef = .int .i64 d.w := hg.2.1; simp only [List.map_toArray, List.map_cons, List.map_nil, Act.eval, h100, h102], aheadR (H2.ext hx) (by have := hN2.out; omega) hn2.out⟩)) ?_
        refine LinL.step (s := (.val (.bool false))) [(99, some 4), (103, some 0), (95, some 8)] rfl (by kernel_rfl) (op_yes (reads := [(99, some 4), (103, some 0)]) 10 95 8 false rfl rfl rfl (op_runs rfl fun σ w' hx hg => ⟨(.bool false), by have h99 : σ.tmps.getD 99 undef = .int .i64 n1 := hg.1; have h103 : σ.tmps.getD 103 undef = .int .i64 n2 := hg.2.1; unfold Runs execOp; simp [Act.eval, h99, h103, go_sem, hahd.out], rfl⟩)) ?_
        refine LinL.step (s := (.val (.bool false))) [(95, some 9), (104, some 0)] rfl (by kernel_rfl) (op_runs rfl fun σ w' hx hg => ⟨_, runs_pick_f (ρ := σ.eval) (w := w') (.tmp 95) (.const (.bool true)) (.tmp 104) rfl hg.1 hg.2.1, rfl⟩) ?_
        intro wN hxN
        simp only [Fin', List.reverse_cons, List.reverse_nil, List.nil_append, List.cons_append, List.drop_zero, List.take_succ_cons, List.take_zero]
        simp only [Act.put, List.setIfInBounds_toArray, List.set_cons_zero, List.set_cons_succ]
        replace hY := hY.trans (hxd.trans hxN)
        replace hX := hX.trans (hxd.trans hxN)
        go_wp2
        go_roundw
        case rel => exact ⟨i + 1, by go_num, by have := hlt.out; omega, hY⟩
        case measure => have := hlt.out; simp [intOf]; omega
    · have tl : decide (i < M.length) = false := decide_eq_false hlt0
      obtain ⟨rA, hrA0⟩ : ∃ rA, A.commOf t = rA := ⟨_, rfl⟩
      obtain ⟨rB, hrB0⟩ : ∃ rB, B.commOf t = rB := ⟨_, rfl⟩
      have hcc := hide_ (show rA ≠ none → rB ≠ none from fun h => by rw [← hrB0]; rw [← hrA0] at h; exact hAB.out.comm hst.out h)
      have hrA := hide_ hrA0
      have hrB := hide_ hrB0
      clear hlt0 hrA0 hrB0
      cases rA with
      | none =>
        obtain ⟨y2, hy20⟩ : ∃ y2, rB.getD 0 = y2 := ⟨_, rfl⟩
        obtain ⟨q2, hq20⟩ : ∃ q2, rB.isSome = q2 := ⟨_, rfl⟩
        have hy2 := hide_ hy20
        have hq2 := hide_ hq20
        clear hy20 hq20
        have tokA : True := trivial
        go_wp2_with ((first
          | go_big_skip
          | (have _t := tokA; go_at_call 10; clear tokA _t; refine (TComm_any (p := p1) (hT1.out.ext hY) (by have := hN1.out; omega) hrA.out).mono ?_; rintro e w7 ⟨he, hx⟩; replace he : e = .returned (.tuple #[.int .i64 0, .bool false]) := he; subst he; replace hY := hY.trans hx; replace hX := hX.trans hx; clear hx)
          | (go_at_call 10; refine (TComm_any (p := p2) (hT2.out.ext hY) (by have := hN2.out; omega) hrB.out).mono ?_; rintro e w7 ⟨he, hx⟩; rw [hy2.out, hq2.out] at he; subst he; replace hY := hY.trans hx; replace hX := hX.trans hx; clear hx)
          | ((with_reducible refine at_ext ?_); refine wpList_runs rfl (runs_extract rfl rfl rfl) ?_; simp only [List.getElem_toArray, List.getElem_cons_succ, List.getElem_cons_zero])
          | fail) <;> (try simp only [Act.put, List.setIfInBounds_toArray, List.set_cons_zero, List.set_cons_succ]))
        go_ret
        exact Keep.intro ⟨rfl, hX⟩
      | some y =>
        obtain ⟨z, rfl⟩ : ∃ z, rB = some z := Option.ne_none_iff_exists'.1 (hcc.out (by simp))
        have tokA : True := trivial
        go_wp2_with ((first
          | go_big_skip
          | (have _t := tokA; go_at_call 10; clear tokA _t; refine (TComm_any (p := p1) (hT1.out.ext hY) (by have := hN1.out; omega) hrA.out).mono ?_; rintro e w7 ⟨he, hx⟩; replace he : e = .returned (.tuple #[.int .i64 y, .bool true]) := he; subst he; replace hY := hY.trans hx; replace hX := hX.trans hx; clear hx)
          | (go_at_call 10; refine (TComm_any (p := p2) (hT2.out.ext hY) (by have := hN2.out; omega) hrB.out).mono ?_; rintro e w7 ⟨he, hx⟩; replace he : e = .returned (.tuple #[.int .i64 z, .bool true]) := he; subst he; replace hY := hY.trans hx; replace hX := hX.trans hx; clear hx)
          | ((with_reducible refine at_ext ?_); refine wpList_runs rfl (runs_extract rfl rfl rfl) ?_; simp only [List.getElem_toArray, List.getElem_cons_succ, List.getElem_cons_zero])
          | fail) <;> (try simp only [Act.put, List.setIfInBounds_toArray, List.set_cons_zero, List.set_cons_succ]))
        go_ret
        exact Keep.intro ⟨rfl, hX⟩

set_option maxRecDepth 100000 in
theorem tallyStays_lifted (os : Os) (started : os.Started) (H : Type) (enc : TypeId × Value → H) :
    ReturnsInHanded {} Try.checked os 7 .any (Rows.tallyStaysSpec.pre6 enc Try.prog Try.f7 Rows.tallyStaysRow.domain false) (Rows.tallyStaysSpec.post enc Try.prog Try.f7 false true false false) := by
  refine law_lifted (s := Rows.tallyStaysSpec) (conds := Rows.tallyStaysRow.domain) Try.func7 (by kernel_rfl) rfl (fun H ds h => by
      rw [show Try.f7.params.size = 3 from rfl] at h
      match ds, h with
      | [d0, d1, d2], _ => rfl) rfl rfl (by decide +kernel) os started H enc
    (ChangeSpec.witness6 (enc := enc) (C := Try.checked) false ⟨#[], #[.slice none 0 0, .slice none 0 0, .int .i64 0], []⟩ 8 (by kernel_rfl) (by kernel_rfl) (by kernel_rfl) (by kernel_rfl)) ?_
  intro W base args ds p hval hA hsz _
  have hp : Try.f7.params.toList = [24, 31, 3] := rfl
  rw [hp] at hA hsz
  obtain ⟨v0, v1, v2, d0, d1, d2, p0, p1, p2, rfl, rfl, rfl, h0, h1, h2⟩ := trodAll_three hA
  obtain ⟨l0, a0, b0, c0⟩ := arg_ints hsz (j := 0) rfl rfl (hval 0 24 v0 rfl rfl) h0
  obtain ⟨l1, a1⟩ := arg_Vts hsz (j := 1) rfl rfl (hval 1 31 v1 rfl rfl) h1
  obtain ⟨a2, rfl, b2, c2⟩ := arg_int (hval 2 3 v2 rfl rfl) h2
  exact tallyStays_law v0 v1 l0 l1 a2 W a0 a1 (by have := b2; have := c2; unfold In64; omega)

theorem tallyStays_holds : Rows.TallyStaysSaid :=
  OpenClaim.holds_of_wide 7 Try.f7 rfl rfl rfl rfl rfl rfl rfl ⟨rfl, rfl, rfl, rfl, rfl⟩ rfl rfl rfl rfl rfl (by kernel_rfl) Try.func7 (by kernel_rfl)
    (of_decide_eq_true (by kernel_rfl)) (by unfold Func.isWrapper; first | (rw [if_pos (by decide +kernel)]; kernel_rfl) | (rw [if_neg (by decide +kernel)]; exact ⟨rfl, rfl⟩))
    (fun os started H enc _ => tallyStays_lifted os started H enc)
#print axioms tallyStays_holds

end Go.Proofs.Ytmhmkaginnddeaa
