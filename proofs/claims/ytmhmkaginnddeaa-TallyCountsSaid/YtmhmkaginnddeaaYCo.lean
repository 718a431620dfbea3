/- The statement TallyCounts: which votes count, who voted for what, what most did, what is committed, and which view is ahead. -/
import Derived.Test.YtmhmkaginnddeaaTlZ
import Derived.Test.YtmhmkaginnddeaaTlRa
import Derived.Test.YtmhmkaginnddeaaArgI
import Derived.Test.YtmhmkaginnddeaaSmT
namespace Go.Proofs.Ytmhmkaginnddeaa
set_option maxRecDepth 100000
open Go.RowKit Go.ChangeShapes Go.WideShapes Go.ChangeAt

theorem allR {X : Nat → Prop} {w : World} {p : Nat} {t : List Int} {T : Tab} {N : Nat} {k v : Int} (h : Tal X w p t T N) (hN : N ≤ 400) (hk : In64 k) (hv : In64 v) {L : List Int} (hL : T.all t.length k v = L) :
    Calls Try.prog 14 #[.pointer (some ⟨p, 0, none⟩), .int .i64 k, .int .i64 v] w fun e w' => ∃ u, e = .returned u ∧ Ext w w' ∧ (Sp.ints L).p u w' := by
  refine (TAll_any h hN hk hv hL).mono ?_
  rintro e w' ⟨u, rfl, o, hx⟩
  exact ⟨u, rfl, hx, o.ints⟩

theorem sameR {w : World} {va vb : Value} {l : List Int} (ha : Ints w va l) (hb : Ints w vb l) : Calls Try.prog 22 #[va, vb] w fun e w' => ∃ z, e = .returned z ∧ Ext w w' ∧ Sp.p (.val (.bool true)) z w' := by
  refine (SameInts_any va vb l w ha hb).mono ?_
  rintro e w' ⟨rfl, hx⟩
  exact ⟨_, rfl, hx, rfl⟩
theorem allRR {w : World} {sv u : Value} {t : List Int} {L : List VtD} {k v : Int} (h : Ty w sv u t L) (hlen : L.length ≤ 100000) (ht : t.length ≤ 7) {R : List Int} (hR : (ofV L).all t.length k v = R) :
    Calls Try.prog 25 #[.agg #[sv, u], .int .i64 k, .int .i64 v] w fun e w' => ∃ z, e = .returned z ∧ Ext w w' ∧ (Sp.ints R).p z w' := by
  refine (AllR_any h hlen ht hR).mono ?_
  rintro e w' ⟨z, rfl, o, hx⟩
  exact ⟨z, rfl, hx, o.ints⟩
theorem aheadRR {w : World} {sv u : Value} {t : List Int} {L : List VtD} {view : Int} (h : Ty w sv u t L) (hlen : L.length ≤ 100000) (ht : StOk t) (hok : ∀ d ∈ L, VtOk t.length d) {r : Int} (hr : (ofV L).aheadOf t view = r) :
    Calls Try.prog 21 #[.agg #[sv, u], .int .i64 view] w fun e w' => ∃ z, e = .returned z ∧ Ext w w' ∧ Sp.p (.val (.int .i64 r)) z w' := by
  refine (AheadR_any h hlen ht hok hr).mono ?_
  rintro e w' ⟨rfl, hx⟩
  exact ⟨_, rfl, hx, rfl⟩

set_option maxRecDepth 100000 in
set_option maxHeartbeats 12800000 in
theorem tallyCounts_law (v0 v1 : Value) (t : List Int) (l : List VtD) (d : VtD) (W : World) (a0 : Ints W v0 t) (a1 : Recs 4 VtR W v1 l) (bd : d.Fit) :
    Calls Try.prog 4 #[v0, v1, .agg (vrow d).toArray] W fun e w' => e = .returned (.bool true) ∧ Ext W w' := by
  refine calls_keep ?_
  have hs := hide_ a0
  have hl := hide_ a1
  have hX := Ext.refl W
  have hone := hide_ (Sl.one' a0)
  by_cases hst0 : StOk t
  rotate_left
  · have hck := hide_ (show (chk t : Int) = 31 from by rw [chk_no hst0]; rfl)
    clear hst0 a0 a1 bd
    go_enter Try.func4, Try.ntmps4
    go_wp2_with ((first
      | go_big_skip
      | ((with_reducible refine at_box ?_); refine w_box _ (vrow d) rfl rfl rfl rfl ?_; intro b5 w1 hb5 hx f5; replace hX := hX.trans hx; clear hx)
      | (go_at_call 12; refine (tallyAlive_any _).mono ?_; rintro e w7 ⟨rfl, hx⟩; replace hX := hX.trans hx; clear hx)
      | (go_at_call 15; refine (checkB (hs.out.ext hX) hck.out).mono ?_; rintro e w7 ⟨rfl, hx⟩; replace hX := hX.trans hx; clear hx)
      | fail) <;> (try simp only [Act.put, List.setIfInBounds_toArray, List.set_cons_zero, List.set_cons_succ]))
    go_ret
    exact Keep.intro ⟨rfl, hX⟩
  have hck := hide_ (show (chk t : Int) = 0 from by rw [chk_ok hst0]; rfl)
  have hst := hide_ hst0
  have hdk := hide_ (show In64 d.k from bd.k)
  have hdw := hide_ (show In64 d.w from bd.w)
  have hdf := hide_ (show In64 d.f from bd.f)
  clear hst0 a0 a1 bd
  by_cases hbig : 80 < l.length
  · have t0 : decide ((80 : Int) < (l.length : Int)) = true := by simp; omega
    clear hbig
    go_enter Try.func4, Try.ntmps4
    go_wp2_with ((first
      | go_big_skip
      | ((with_reducible refine at_box ?_); refine w_box _ (vrow d) rfl rfl rfl rfl ?_; intro b5 w1 hb5 hx f5; replace hX := hX.trans hx; clear hx)
      | (go_at_call 12; refine (tallyAlive_any _).mono ?_; rintro e w7 ⟨rfl, hx⟩; replace hX := hX.trans hx; clear hx)
      | (go_at_call 15; refine (checkB (hs.out.ext hX) hck.out).mono ?_; rintro e w7 ⟨rfl, hx⟩; replace hX := hX.trans hx; clear hx)
      | ((with_reducible refine at_bi ?_); (try refine w_yes _ _ _ rfl rfl rfl ?_); refine w_rlen Try.elVt _ rfl rfl rfl (hl.out.ext VtR.stays hX) ?_)
      | fail) <;> (try simp only [Act.put, List.setIfInBounds_toArray, List.set_cons_zero, List.set_cons_succ]))
    go_ret
    exact Keep.intro ⟨rfl, hX⟩
  have t0 : decide ((80 : Int) < (l.length : Int)) = false := by simp; omega
  have h80 := hide_ (show l.length ≤ 80 from by omega)
  have hN := hide_ (show l.length ≤ 400 from by omega)
  clear hbig
  obtain ⟨L, hL0⟩ : ∃ L, votesOf t.length l = L := ⟨_, rfl⟩
  have hok := hide_ (show ∀ d ∈ L, VtOk t.length d from fun d hd => (votesOf_ok t.length l d (by rw [hL0]; exact hd)).1)
  have hwok := hide_ (show ∀ d ∈ L, 0 ≤ d.w ∧ d.w ≤ 1000 from fun d hd => (hok.out d hd).2.1)
  have hLl := hide_ (show L.length ≤ 100000 from by rw [← hL0]; have h1 := votesOf_len t.length l; have h2 := h80.out; omega)
  have hL := hide_ hL0
  obtain ⟨rV, hrV0⟩ : ∃ rV, fat (ofV L d.k d.w) d.f = rV := ⟨_, rfl⟩
  have hrO := hide_ (show lookV L d.k d.w d.f = rV from by rw [lookV_fat (fun e he => (hok.out e he).2.2.1.1)]; exact hrV0)
  obtain ⟨rM, hrM0⟩ : ∃ rM, (ofV L).mostOf t d.k d.w = rM := ⟨_, rfl⟩
  obtain ⟨rC, hrC0⟩ : ∃ rC, (ofV L).commOf t = rC := ⟨_, rfl⟩
  obtain ⟨n1, hn10⟩ : ∃ n1, (ofV L).aheadOf t d.w = n1 := ⟨_, rfl⟩
  obtain ⟨WL, hWL0⟩ : ∃ WL, (ofV L).who t.length d.k d.w d.x = WL := ⟨_, rfl⟩
  obtain ⟨AL, hAL0⟩ : ∃ AL, (ofV L).all t.length d.k d.w = AL := ⟨_, rfl⟩
  obtain ⟨A, hA0⟩ : ∃ A, ofV L = A := ⟨_, rfl⟩
  have hrML := hide_ hrM0
  have hrCL := hide_ hrC0
  have hn1L := hide_ hn10
  have hWLL := hide_ hWL0
  have hALL := hide_ hAL0
  rw [hA0] at hrV0 hrM0 hrC0 hn10 hWL0 hAL0
  have hA := hide_ hA0
  have hrV := hide_ hrV0
  have hrM := hide_ hrM0
  have hrC := hide_ hrC0
  have hn1 := hide_ hn10
  have hWL := hide_ hWL0
  have hAL := hide_ hAL0
  obtain ⟨yV, hyV0⟩ : ∃ y, rV.getD 0 = y := ⟨_, rfl⟩
  obtain ⟨qV, hqV0⟩ : ∃ y, rV.isSome = y := ⟨_, rfl⟩
  obtain ⟨yM, hyM0⟩ : ∃ y, rM.getD 0 = y := ⟨_, rfl⟩
  obtain ⟨qM, hqM0⟩ : ∃ y, rM.isSome = y := ⟨_, rfl⟩
  obtain ⟨yC, hyC0⟩ : ∃ y, rC.getD 0 = y := ⟨_, rfl⟩
  obtain ⟨qC, hqC0⟩ : ∃ y, rC.isSome = y := ⟨_, rfl⟩
  have hyV := hide_ hyV0
  have hqV := hide_ hqV0
  have hyM := hide_ hyM0
  have hqM := hide_ hqM0
  have hyC := hide_ hyC0
  have hqC := hide_ hqC0
  have s1 : (yV != yV) = false := by simp
  have s2 : (qV != qV) = false := by simp
  have s3 : (yM != yM) = false := by simp
  have s4 : (qM != qM) = false := by simp
  clear hL0 hA0 hrV0 hrM0 hrC0 hn10 hWL0 hAL0 hyV0 hqV0 hyM0 hqM0 hyC0 hqC0
  go_enter Try.func4, Try.ntmps4
  go_wp2_with ((first
    | go_big_skip
    | ((with_reducible refine at_box ?_); refine w_box _ (vrow d) rfl rfl rfl rfl ?_; intro b5 w1 hb5 hx f5; replace hX := hX.trans hx; clear hx)
    | (go_at_call 12; refine (tallyAlive_any _).mono ?_; rintro e w7 ⟨rfl, hx⟩; replace f5 := f5.ext hx; replace hX := hX.trans hx; clear hx)
    | (go_at_call 15; refine (checkB (hs.out.ext hX) hck.out).mono ?_; rintro e w7 ⟨rfl, hx⟩; replace f5 := f5.ext hx; replace hX := hX.trans hx; clear hx)
    | ((with_reducible refine at_bi ?_); (try refine w_yes _ _ _ rfl rfl rfl ?_); refine w_rlen Try.elVt _ rfl rfl rfl (hl.out.ext VtR.stays hX) ?_)
    | (go_at_call 16; refine (countedS (hs.out.ext hX) hst.out (hl.out.ext VtR.stays hX) (by have := h80.out; omega) hX).mono ?_; rintro e w3 ⟨p1, u1, rfl, hT1, hu, hx⟩; rw [hL.out] at hT1 hu; rw [hA.out] at hT1; have ou1 := hide_ hu.one; replace f5 := f5.ext hx; replace hX := hX.trans hx; clear hx)
    | ((with_reducible refine at_ext ?_); refine wpList_runs rfl (runs_extract rfl rfl rfl) ?_; simp only [List.getElem_toArray, List.getElem_cons_succ, List.getElem_cons_zero])
    | ((with_reducible refine at_alloc ?_); refine w_alloc (o := ⟨some 8, _, _, _, _, _⟩) Try.stTy rfl rfl ?_; intro b8 w4 hb8 hx8 f8)
    | ((with_reducible refine at_store ?_); refine w_astore Try.stTy (us := [v0, u1]) _ _ rfl rfl rfl rfl rfl f8 rfl rfl (by intro z hz; simp at hz; rcases hz with rfl | rfl; exact hone.out; exact ou1.out) ?_; intro w5 hm5 f8'; replace f8 := f8'; have hx := hm5.after hx8 (fun i e => by have e' : i = b8 := e; rw [e']; exact hb8); replace hT1 := hT1.ext hx; replace hu := hu.ext hx; replace f5 := f5.ext hx; replace hX := hX.trans hx; clear hx hm5 hx8 hb8 f8')
    | ((with_reducible refine at_load ?_); refine w_aload (cs := [v0, u1]) Try.stTy _ rfl rfl rfl f8 rfl ?_)
    | ((with_reducible refine at_field ?_); refine w_field Try.stVt _ _ _ rfl rfl rfl (by omega) ?_)
    | ((with_reducible refine at_load ?_); refine w_fload _ rfl rfl rfl f5 rfl (agg_of (by kernel_rfl)) ?_)
    | (go_at_call 17; refine (TVote_any hT1 hdk.out hdw.out hdf.out hrV.out).mono ?_; rintro e w6 ⟨he, hw6⟩; rw [hyV.out, hqV.out] at he; subst he; replace hw6 := hw6.symm; subst hw6)
    | (go_at_call 18; refine (Of_any ⟨hs.out.ext hX, hu⟩ hLl.out hrO.out).mono ?_; rintro e w5 ⟨he, hx⟩; rw [hyV.out, hqV.out] at he; subst he; replace hT1 := hT1.ext hx; replace hu := hu.ext hx; replace f5 := f5.ext hx; replace f8 := f8.ext hx; replace hX := hX.trans hx; clear hx)
    | (go_at_call 11; refine (TMost_any hT1 hN.out hdk.out hdw.out hrM.out).mono ?_; rintro e w5 ⟨he, hx⟩; rw [hyM.out, hqM.out] at he; subst he; replace hT1 := hT1.ext hx; replace hu := hu.ext hx; replace f5 := f5.ext hx; replace f8 := f8.ext hx; replace hX := hX.trans hx; clear hx)
    | (go_at_call 19; refine (MostR_any ⟨hs.out.ext hX, hu⟩ hLl.out hst.out hrML.out).mono ?_; rintro e w5 ⟨he, hx⟩; rw [hyM.out, hqM.out] at he; subst he; replace hT1 := hT1.ext hx; replace hu := hu.ext hx; replace f5 := f5.ext hx; replace f8 := f8.ext hx; replace hX := hX.trans hx; clear hx)
    | (go_at_call 10; refine (TComm_any hT1 hN.out hrC.out).mono ?_; rintro e w5 ⟨he, hx⟩; rw [hyC.out, hqC.out] at he; subst he; replace hT1 := hT1.ext hx; replace hu := hu.ext hx; replace f5 := f5.ext hx; replace f8 := f8.ext hx; replace hX := hX.trans hx; clear hx)
    | (go_at_call 20; refine (CommR_any ⟨hs.out.ext hX, hu⟩ hLl.out hst.out hwok.out hrCL.out).mono ?_; rintro e w5 ⟨he, hx⟩; rw [hyC.out, hqC.out] at he; subst he; replace hT1 := hT1.ext hx; replace hu := hu.ext hx; replace f5 := f5.ext hx; replace f8 := f8.ext hx; replace hX := hX.trans hx; clear hx)
    | fail) <;> (try simp only [Act.put, List.setIfInBounds_toArray, List.set_cons_zero, List.set_cons_succ]))
  refine wp_region_phx (by kernel_rfl) ?_; intro wd hxd; have F5 := f5.ext hxd; have F8 := f8.ext hxd; have H1 := hT1.ext hxd; have HT := (show Ty _ v0 u1 t L from ⟨hs.out.ext hX, hu⟩).ext hxd
  refine Ph.rest 0 19 (by kernel_rfl) ?_
  refine LinL.step (s := (.val (.int .i64 yC))) [(18, none)] rfl (by kernel_rfl) (op_out 18 (.int .i64 yC) rfl (.inl rfl) rfl) ?_
  refine LinL.step (s := (.val (.int .i64 yC))) [(20, none)] rfl (by kernel_rfl) (op_out 20 (.int .i64 yC) rfl (.inl rfl) rfl) ?_
  refine LinL.step (s := (.val (.bool false))) [(111, some 1), (112, some 0)] rfl (by kernel_rfl) (op_runs rfl fun σ w' hx hg => ⟨(.bool false), by have h111 : σ.tmps.getD 111 undef = .int .i64 yC := hg.1; have h112 : σ.tmps.getD 112 undef = .int .i64 yC := hg.2.1; unfold Runs execOp; simp [Act.eval, h111, h112, go_sem], rfl⟩) ?_
  refine LinL.step (s := (.val (.bool false))) [(113, some 0)] rfl (by kernel_rfl) (op_copy 113 0 (.val (.bool false)) rfl (.inl rfl) rfl) ?_
  refine LinL.step (s := (.val (.bool qC))) [(19, none), (114, some 0)] rfl (by kernel_rfl) (op_yes (reads := [(19, none)]) 3 114 0 false rfl rfl rfl (op_out 19 (.bool qC) rfl (.inl rfl) rfl)) ?_
  refine LinL.step (s := (.val (.bool qC))) [(21, none), (114, some 1)] rfl (by kernel_rfl) (op_yes (reads := [(21, none)]) 3 114 1 false rfl rfl rfl (op_out 21 (.bool qC) rfl (.inl rfl) rfl)) ?_
  refine LinL.step (s := (.val (.bool false))) [(115, some 1), (116, some 0), (114, some 2)] rfl (by kernel_rfl) (op_yes (reads := [(115, some 1), (116, some 0)]) 3 114 2 false rfl rfl rfl (op_runs rfl fun σ w' hx hg => ⟨(.bool false), by have h115 : σ.tmps.getD 115 undef = .bool qC := hg.1; have h116 : σ.tmps.getD 116 undef = .bool qC := hg.2.1; unfold Runs execOp; simp [Act.eval, h115, h116, go_sem], rfl⟩)) ?_
  refine LinL.step (s := (.val (.bool false))) [(114, some 3), (117, some 0)] rfl (by kernel_rfl) (op_runs rfl fun σ w' hx hg => ⟨_, runs_pick_f (ρ := σ.eval) (w := w') (.tmp 114) (.const (.bool true)) (.tmp 117) rfl hg.1 hg.2.1, rfl⟩) ?_
  refine LinL.step (s := (.val (.bool false))) [(118, some 0)] rfl (by kernel_rfl) (op_copy 118 0 (.val (.bool false)) rfl (.inl rfl) rfl) ?_
  refine LinL.step (s := (.val (.pointer (some ⟨p1, 0, none⟩)))) [(7, none), (119, some 0)] rfl (by kernel_rfl) (op_yes (reads := [(7, none)]) 8 119 0 false rfl rfl rfl (op_out 7 (.pointer (some ⟨p1, 0, none⟩)) rfl (.inl rfl) rfl)) ?_
  refine LinL.step (s := (.val (.pointer (some ⟨b5, 1, none⟩)))) [(5, none), (119, some 1)] rfl (by kernel_rfl) (op_yes (reads := [(5, none)]) 8 119 1 false rfl rfl rfl (op_runs rfl fun σ w' hx hg => ⟨_, runs_field (ρ := σ.eval) (w := w') Try.stVt (.tmp 5) b5 1 rfl hg.1 (by omega), rfl⟩)) ?_
  refine LinL.step (s := (.val (.int .i64 d.w))) [(121, some 0), (119, some 2)] rfl (by kernel_rfl) (op_yes (reads := [(121, some 0)]) 8 119 2 false rfl rfl rfl (op_runs rfl fun σ w' hx hg => ⟨_, runs_fload (ρ := σ.eval) (w := w') (.tmp 121) rfl hg.1 (agg_of (by kernel_rfl) _) (F5.ext hx) rfl, rfl⟩)) ?_
  refine LinL.step (s := (.val (.int .i64 n1))) [(120, some 2), (122, some 0), (119, some 3)] rfl (by kernel_rfl) (op_yes (reads := [(120, some 2), (122, some 0)]) 8 119 3 false rfl rfl rfl (op_calls 13 #[(.tmp 120), (.tmp 122)] #[22, 3] (fun σ => #[.pointer (some ⟨p1, 0, none⟩), .int .i64 d.w]) rfl rfl (fun _ _ => rfl) fun σ w' hx hg => ⟨by have h120 : σ.tmps.getD 120 undef = .pointer (some ⟨p1, 0, none⟩) := hg.1; have h122 : σ.tmps.getD 122 undef = .int .i64 d.w := hg.2.1; simp only [List.map_toArray, List.map_cons, List.map_nil, Act.eval, h120, h122], aheadR (H1.ext hx) hN.out hn1.out⟩)) ?_
  refine LinL.step (s := (.val (.agg #[v0, u1]))) [(8, none), (119, some 4)] rfl (by kernel_rfl) (op_yes (reads := [(8, none)]) 8 119 4 false rfl rfl rfl (op_runs rfl fun σ w' hx hg => ⟨_, runs_aload (ρ := σ.eval) (w := w') Try.stTy (.tmp 8) rfl hg.1 (F8.ext hx) rfl, rfl⟩)) ?_
  refine LinL.step (s := (.val (.pointer (some ⟨b5, 1, none⟩)))) [(5, none), (119, some 5)] rfl (by kernel_rfl) (op_yes (reads := [(5, none)]) 8 119 5 false rfl rfl rfl (op_runs rfl fun σ w' hx hg => ⟨_, runs_field (ρ := σ.eval) (w := w') Try.stVt (.tmp 5) b5 1 rfl hg.1 (by omega), rfl⟩)) ?_
  refine LinL.step (s := (.val (.int .i64 d.w))) [(125, some 0), (119, some 6)] rfl (by kernel_rfl) (op_yes (reads := [(125, some 0)]) 8 119 6 false rfl rfl rfl (op_runs rfl fun σ w' hx hg => ⟨_, runs_fload (ρ := σ.eval) (w := w') (.tmp 125) rfl hg.1 (agg_of (by kernel_rfl) _) (F5.ext hx) rfl, rfl⟩)) ?_
  refine LinL.step (s := (.val (.int .i64 n1))) [(124, some 2), (126, some 0), (119, some 7)] rfl (by kernel_rfl) (op_yes (reads := [(124, some 2), (126, some 0)]) 8 119 7 false rfl rfl rfl (op_calls 21 #[(.tmp 124), (.tmp 126)] #[36, 3] (fun σ => #[.agg #[v0, u1], .int .i64 d.w]) rfl rfl (fun _ _ => rfl) fun σ w' hx hg => ⟨by have h124 : σ.tmps.getD 124 undef = .agg #[v0, u1] := hg.1; have h126 : σ.tmps.getD 126 undef = .int .i64 d.w := hg.2.1; simp only [List.map_toArray, List.map_cons, List.map_nil, Act.eval, h124, h126], aheadRR (HT.ext hx) hLl.out hst.out hok.out hn1L.out⟩)) ?_
  refine LinL.step (s := (.val (.bool false))) [(123, some 4), (127, some 0), (119, some 8)] rfl (by kernel_rfl) (op_yes (reads := [(123, some 4), (127, some 0)]) 8 119 8 false rfl rfl rfl (op_runs rfl fun σ w' hx hg => ⟨(.bool false), by have h123 : σ.tmps.getD 123 undef = .int .i64 n1 := hg.1; have h127 : σ.tmps.getD 127 undef = .int .i64 n1 := hg.2.1; unfold Runs execOp; simp [Act.eval, h123, h127, go_sem], rfl⟩)) ?_
  refine LinL.step (s := (.val (.bool false))) [(119, some 9), (128, some 0)] rfl (by kernel_rfl) (op_runs rfl fun σ w' hx hg => ⟨_, runs_pick_f (ρ := σ.eval) (w := w') (.tmp 119) (.const (.bool true)) (.tmp 128) rfl hg.1 hg.2.1, rfl⟩) ?_
  intro wN hxN
  simp only [Fin', List.reverse_cons, List.reverse_nil, List.nil_append, List.cons_append, List.drop_zero, List.take_succ_cons, List.take_zero]
  simp only [Act.put, List.setIfInBounds_toArray, List.set_cons_zero, List.set_cons_succ]
  replace f5 := f5.ext (hxd.trans hxN)
  replace f8 := f8.ext (hxd.trans hxN)
  replace hT1 := hT1.ext (hxd.trans hxN)
  replace hu := hu.ext (hxd.trans hxN)
  replace hX := hX.trans (hxd.trans hxN)
  clear hxd hxN F5 F8 H1 HT
  go_wp2
  refine wp_region_phx (by kernel_rfl) ?_; intro wd hxd; have F5 := f5.ext hxd; have F8 := f8.ext hxd; have H1 := hT1.ext hxd; have HT := (show Ty _ v0 u1 t L from ⟨hs.out.ext hX, hu⟩).ext hxd
  refine Ph.rest 0 33 (by kernel_rfl) ?_
  refine LinL.step (s := (.val (.pointer (some ⟨p1, 0, none⟩)))) [(7, none)] rfl (by kernel_rfl) (op_out 7 (.pointer (some ⟨p1, 0, none⟩)) rfl (.inl rfl) rfl) ?_
  refine LinL.step (s := (.val (.pointer (some ⟨b5, 0, none⟩)))) [(5, none)] rfl (by kernel_rfl) (op_runs rfl fun σ w' hx hg => ⟨_, runs_field (ρ := σ.eval) (w := w') Try.stVt (.tmp 5) b5 0 rfl hg.1 (by omega), rfl⟩) ?_
  refine LinL.step (s := (.val (.int .i64 d.k))) [(131, some 0)] rfl (by kernel_rfl) (op_runs rfl fun σ w' hx hg => ⟨_, runs_fload (ρ := σ.eval) (w := w') (.tmp 131) rfl hg.1 (agg_of (by kernel_rfl) _) (F5.ext hx) rfl, rfl⟩) ?_
  refine LinL.step (s := (.val (.pointer (some ⟨b5, 1, none⟩)))) [(5, none)] rfl (by kernel_rfl) (op_runs rfl fun σ w' hx hg => ⟨_, runs_field (ρ := σ.eval) (w := w') Try.stVt (.tmp 5) b5 1 rfl hg.1 (by omega), rfl⟩) ?_
  refine LinL.step (s := (.val (.int .i64 d.w))) [(133, some 0)] rfl (by kernel_rfl) (op_runs rfl fun σ w' hx hg => ⟨_, runs_fload (ρ := σ.eval) (w := w') (.tmp 133) rfl hg.1 (agg_of (by kernel_rfl) _) (F5.ext hx) rfl, rfl⟩) ?_
  refine LinL.step (s := (.val (.pointer (some ⟨b5, 3, none⟩)))) [(5, none)] rfl (by kernel_rfl) (op_runs rfl fun σ w' hx hg => ⟨_, runs_field (ρ := σ.eval) (w := w') Try.stVt (.tmp 5) b5 3 rfl hg.1 (by omega), rfl⟩) ?_
  refine LinL.step (s := (.val (.int .i64 d.x))) [(135, some 0)] rfl (by kernel_rfl) (op_runs rfl fun σ w' hx hg => ⟨_, runs_fload (ρ := σ.eval) (w := w') (.tmp 135) rfl hg.1 (agg_of (by kernel_rfl) _) (F5.ext hx) rfl, rfl⟩) ?_
  refine LinL.step (s := (Sp.ints WL)) [(130, some 6), (132, some 4), (134, some 2), (136, some 0)] rfl (by kernel_rfl) (op_calls 23 #[(.tmp 130), (.tmp 132), (.tmp 134), (.tmp 136)] #[22, 3, 3, 3] (fun σ => #[.pointer (some ⟨p1, 0, none⟩), .int .i64 d.k, .int .i64 d.w, .int .i64 d.x]) rfl rfl (fun _ _ => rfl) fun σ w' hx hg => ⟨by have h130 : σ.tmps.getD 130 undef = .pointer (some ⟨p1, 0, none⟩) := hg.1; have h132 : σ.tmps.getD 132 undef = .int .i64 d.k := hg.2.1; have h134 : σ.tmps.getD 134 undef = .int .i64 d.w := hg.2.2.1; have h136 : σ.tmps.getD 136 undef = .int .i64 d.x := hg.2.2.2.1; simp only [List.map_toArray, List.map_cons, List.map_nil, Act.eval, h130, h132, h134, h136], whoR (H1.ext hx) hN.out hdk.out hdw.out hWL.out⟩) ?_
  refine LinL.step (s := (.val (.agg #[v0, u1]))) [(8, none)] rfl (by kernel_rfl) (op_runs rfl fun σ w' hx hg => ⟨_, runs_aload (ρ := σ.eval) (w := w') Try.stTy (.tmp 8) rfl hg.1 (F8.ext hx) rfl, rfl⟩) ?_
  refine LinL.step (s := (.val (.pointer (some ⟨b5, 0, none⟩)))) [(5, none)] rfl (by kernel_rfl) (op_runs rfl fun σ w' hx hg => ⟨_, runs_field (ρ := σ.eval) (w := w') Try.stVt (.tmp 5) b5 0 rfl hg.1 (by omega), rfl⟩) ?_
  refine LinL.step (s := (.val (.int .i64 d.k))) [(139, some 0)] rfl (by kernel_rfl) (op_runs rfl fun σ w' hx hg => ⟨_, runs_fload (ρ := σ.eval) (w := w') (.tmp 139) rfl hg.1 (agg_of (by kernel_rfl) _) (F5.ext hx) rfl, rfl⟩) ?_
  refine LinL.step (s := (.val (.pointer (some ⟨b5, 1, none⟩)))) [(5, none)] rfl (by kernel_rfl) (op_runs rfl fun σ w' hx hg => ⟨_, runs_field (ρ := σ.eval) (w := w') Try.stVt (.tmp 5) b5 1 rfl hg.1 (by omega), rfl⟩) ?_
  refine LinL.step (s := (.val (.int .i64 d.w))) [(141, some 0)] rfl (by kernel_rfl) (op_runs rfl fun σ w' hx hg => ⟨_, runs_fload (ρ := σ.eval) (w := w') (.tmp 141) rfl hg.1 (agg_of (by kernel_rfl) _) (F5.ext hx) rfl, rfl⟩) ?_
  refine LinL.step (s := (.val (.pointer (some ⟨b5, 3, none⟩)))) [(5, none)] rfl (by kernel_rfl) (op_runs rfl fun σ w' hx hg => ⟨_, runs_field (ρ := σ.eval) (w := w') Try.stVt (.tmp 5) b5 3 rfl hg.1 (by omega), rfl⟩) ?_
  refine LinL.step (s := (.val (.int .i64 d.x))) [(143, some 0)] rfl (by kernel_rfl) (op_runs rfl fun σ w' hx hg => ⟨_, runs_fload (ρ := σ.eval) (w := w') (.tmp 143) rfl hg.1 (agg_of (by kernel_rfl) _) (F5.ext hx) rfl, rfl⟩) ?_
  refine LinL.step (s := (Sp.ints WL)) [(138, some 6), (140, some 4), (142, some 2), (144, some 0)] rfl (by kernel_rfl) (op_calls 24 #[(.tmp 138), (.tmp 140), (.tmp 142), (.tmp 144)] #[36, 3, 3, 3] (fun σ => #[.agg #[v0, u1], .int .i64 d.k, .int .i64 d.w, .int .i64 d.x]) rfl rfl (fun _ _ => rfl) fun σ w' hx hg => ⟨by have h138 : σ.tmps.getD 138 undef = .agg #[v0, u1] := hg.1; have h140 : σ.tmps.getD 140 undef = .int .i64 d.k := hg.2.1; have h142 : σ.tmps.getD 142 undef = .int .i64 d.w := hg.2.2.1; have h144 : σ.tmps.getD 144 undef = .int .i64 d.x := hg.2.2.2.1; simp only [List.map_toArray, List.map_cons, List.map_nil, Act.eval, h138, h140, h142, h144], whoRR (HT.ext hx) hLl.out hst.out.2.1 hWLL.out⟩) ?_
  refine LinL.step (s := (.val (.bool true))) [(137, some 8), (145, some 0)] rfl (by kernel_rfl) (op_calls 22 #[(.tmp 137), (.tmp 145)] #[24, 24] (fun σ => #[σ.tmps.getD 137 undef, σ.tmps.getD 145 undef]) rfl rfl (fun _ _ => rfl) fun σ w' hx hg => ⟨by skip; simp only [List.map_toArray, List.map_cons, List.map_nil, Act.eval], sameR hg.1 hg.2.1⟩) ?_
  refine LinL.step (s := (.val (.bool true))) [(146, some 0)] rfl (by kernel_rfl) (op_copy 146 0 (.val (.bool true)) rfl (.inl rfl) rfl) ?_
  refine LinL.step (s := (.val (.pointer (some ⟨p1, 0, none⟩)))) [(7, none), (147, some 0)] rfl (by kernel_rfl) (op_yes (reads := [(7, none)]) 17 147 0 true rfl rfl rfl (op_out 7 (.pointer (some ⟨p1, 0, none⟩)) rfl (.inl rfl) rfl)) ?_
  refine LinL.step (s := (.val (.pointer (some ⟨b5, 0, none⟩)))) [(5, none), (147, some 1)] rfl (by kernel_rfl) (op_yes (reads := [(5, none)]) 17 147 1 true rfl rfl rfl (op_runs rfl fun σ w' hx hg => ⟨_, runs_field (ρ := σ.eval) (w := w') Try.stVt (.tmp 5) b5 0 rfl hg.1 (by omega), rfl⟩)) ?_
  refine LinL.step (s := (.val (.int .i64 d.k))) [(149, some 0), (147, some 2)] rfl (by kernel_rfl) (op_yes (reads := [(149, some 0)]) 17 147 2 true rfl rfl rfl (op_runs rfl fun σ w' hx hg => ⟨_, runs_fload (ρ := σ.eval) (w := w') (.tmp 149) rfl hg.1 (agg_of (by kernel_rfl) _) (F5.ext hx) rfl, rfl⟩)) ?_
  refine LinL.step (s := (.val (.pointer (some ⟨b5, 1, none⟩)))) [(5, none), (147, some 3)] rfl (by kernel_rfl) (op_yes (reads := [(5, none)]) 17 147 3 true rfl rfl rfl (op_runs rfl fun σ w' hx hg => ⟨_, runs_field (ρ := σ.eval) (w := w') Try.stVt (.tmp 5) b5 1 rfl hg.1 (by omega), rfl⟩)) ?_
  refine LinL.step (s := (.val (.int .i64 d.w))) [(151, some 0), (147, some 4)] rfl (by kernel_rfl) (op_yes (reads := [(151, some 0)]) 17 147 4 true rfl rfl rfl (op_runs rfl fun σ w' hx hg => ⟨_, runs_fload (ρ := σ.eval) (w := w') (.tmp 151) rfl hg.1 (agg_of (by kernel_rfl) _) (F5.ext hx) rfl, rfl⟩)) ?_
  refine LinL.step (s := (Sp.ints AL)) [(148, some 4), (150, some 2), (152, some 0), (147, some 5)] rfl (by kernel_rfl) (op_yes (reads := [(148, some 4), (150, some 2), (152, some 0)]) 17 147 5 true rfl rfl rfl (op_calls 14 #[(.tmp 148), (.tmp 150), (.tmp 152)] #[22, 3, 3] (fun σ => #[.pointer (some ⟨p1, 0, none⟩), .int .i64 d.k, .int .i64 d.w]) rfl rfl (fun _ _ => rfl) fun σ w' hx hg => ⟨by have h148 : σ.tmps.getD 148 undef = .pointer (some ⟨p1, 0, none⟩) := hg.1; have h150 : σ.tmps.getD 150 undef = .int .i64 d.k := hg.2.1; have h152 : σ.tmps.getD 152 undef = .int .i64 d.w := hg.2.2.1; simp only [List.map_toArray, List.map_cons, List.map_nil, Act.eval, h148, h150, h152], allR (H1.ext hx) hN.out hdk.out hdw.out hAL.out⟩)) ?_
  refine LinL.step (s := (.val (.agg #[v0, u1]))) [(8, none), (147, some 6)] rfl (by kernel_rfl) (op_yes (reads := [(8, none)]) 17 147 6 true rfl rfl rfl (op_runs rfl fun σ w' hx hg => ⟨_, runs_aload (ρ := σ.eval) (w := w') Try.stTy (.tmp 8) rfl hg.1 (F8.ext hx) rfl, rfl⟩)) ?_
  refine LinL.step (s := (.val (.pointer (some ⟨b5, 0, none⟩)))) [(5, none), (147, some 7)] rfl (by kernel_rfl) (op_yes (reads := [(5, none)]) 17 147 7 true rfl rfl rfl (op_runs rfl fun σ w' hx hg => ⟨_, runs_field (ρ := σ.eval) (w := w') Try.stVt (.tmp 5) b5 0 rfl hg.1 (by omega), rfl⟩)) ?_
  refine LinL.step (s := (.val (.int .i64 d.k))) [(155, some 0), (147, some 8)] rfl (by kernel_rfl) (op_yes (reads := [(155, some 0)]) 17 147 8 true rfl rfl rfl (op_runs rfl fun σ w' hx hg => ⟨_, runs_fload (ρ := σ.eval) (w := w') (.tmp 155) rfl hg.1 (agg_of (by kernel_rfl) _) (F5.ext hx) rfl, rfl⟩)) ?_
  refine LinL.step (s := (.val (.pointer (some ⟨b5, 1, none⟩)))) [(5, none), (147, some 9)] rfl (by kernel_rfl) (op_yes (reads := [(5, none)]) 17 147 9 true rfl rfl rfl (op_runs rfl fun σ w' hx hg => ⟨_, runs_field (ρ := σ.eval) (w := w') Try.stVt (.tmp 5) b5 1 rfl hg.1 (by omega), rfl⟩)) ?_
  refine LinL.step (s := (.val (.int .i64 d.w))) [(157, some 0), (147, some 10)] rfl (by kernel_rfl) (op_yes (reads := [(157, some 0)]) 17 147 10 true rfl rfl rfl (op_runs rfl fun σ w' hx hg => ⟨_, runs_fload (ρ := σ.eval) (w := w') (.tmp 157) rfl hg.1 (agg_of (by kernel_rfl) _) (F5.ext hx) rfl, rfl⟩)) ?_
  refine LinL.step (s := (Sp.ints AL)) [(154, some 4), (156, some 2), (158, some 0), (147, some 11)] rfl (by kernel_rfl) (op_yes (reads := [(154, some 4), (156, some 2), (158, some 0)]) 17 147 11 true rfl rfl rfl (op_calls 25 #[(.tmp 154), (.tmp 156), (.tmp 158)] #[36, 3, 3] (fun σ => #[.agg #[v0, u1], .int .i64 d.k, .int .i64 d.w]) rfl rfl (fun _ _ => rfl) fun σ w' hx hg => ⟨by have h154 : σ.tmps.getD 154 undef = .agg #[v0, u1] := hg.1; have h156 : σ.tmps.getD 156 undef = .int .i64 d.k := hg.2.1; have h158 : σ.tmps.getD 158 undef = .int .i64 d.w := hg.2.2.1; simp only [List.map_toArray, List.map_cons, List.map_nil, Act.eval, h154, h156, h158], allRR (HT.ext hx) hLl.out hst.out.2.1 hALL.out⟩)) ?_
  refine LinL.step (s := (.val (.bool true))) [(153, some 6), (159, some 0), (147, some 12)] rfl (by kernel_rfl) (op_yes (reads := [(153, some 6), (159, some 0)]) 17 147 12 true rfl rfl rfl (op_calls 22 #[(.tmp 153), (.tmp 159)] #[24, 24] (fun σ => #[σ.tmps.getD 153 undef, σ.tmps.getD 159 undef]) rfl rfl (fun _ _ => rfl) fun σ w' hx hg => ⟨by skip; simp only [List.map_toArray, List.map_cons, List.map_nil, Act.eval], sameR hg.1 hg.2.1⟩)) ?_
  refine LinL.step (s := (.val (.bool true))) [(147, some 13), (160, some 0)] rfl (by kernel_rfl) (op_runs rfl fun σ w' hx hg => ⟨_, runs_pick_t (ρ := σ.eval) (w := w') (.tmp 147) (.tmp 160) (.const (.bool false)) rfl hg.1 hg.2.1, rfl⟩) ?_
  refine LinL.step (s := (.val (.bool true))) [(161, some 0)] rfl (by kernel_rfl) (op_copy 161 0 (.val (.bool true)) rfl (.inr rfl) rfl) ?_
  intro wN hxN
  simp only [Fin', Sp.ints, List.reverse_cons, List.reverse_nil, List.nil_append, List.cons_append, List.drop_zero, List.take_succ_cons, List.take_zero]
  intro q137 hq137 q145 hq145 q153 hq153 q159 hq159
  simp only [Act.put, List.setIfInBounds_toArray, List.set_cons_zero, List.set_cons_succ]
  replace hX := hX.trans (hxd.trans hxN)
  go_wp2
  go_ret
  exact Keep.intro ⟨rfl, hX⟩

set_option maxRecDepth 100000 in
theorem tallyCounts_lifted (os : Os) (started : os.Started) (H : Type) (enc : TypeId × Value → H) :
    ReturnsInHanded {} Try.checked os 4 .any (Rows.tallyCountsSpec.pre6 enc Try.prog Try.f4 Rows.tallyCountsRow.domain false) (Rows.tallyCountsSpec.post enc Try.prog Try.f4 false true false false) := by
  refine law_lifted (s := Rows.tallyCountsSpec) (conds := Rows.tallyCountsRow.domain) Try.func4 (by kernel_rfl) rfl (fun H ds h => by
      rw [show Try.f4.params.size = 3 from rfl] at h
      match ds, h with
      | [d0, d1, d2], _ => rfl) rfl rfl (by decide +kernel) os started H enc
    (ChangeSpec.witness6 (enc := enc) (C := Try.checked) false ⟨#[], #[.slice none 0 0, .slice none 0 0, .agg #[.int .i64 0, .int .i64 0, .int .i64 0, .int .i64 0]], []⟩ 8 (by kernel_rfl) (by kernel_rfl) (by kernel_rfl) (by kernel_rfl)) ?_
  intro W base args ds p hval hA hsz _
  have hp : Try.f4.params.toList = [24, 31, 33] := rfl
  rw [hp] at hA hsz
  obtain ⟨v0, v1, v2, d0, d1, d2, p0, p1, p2, rfl, rfl, rfl, h0, h1, h2⟩ := trodAll_three hA
  obtain ⟨l0, a0, b0, c0⟩ := arg_ints hsz (j := 0) rfl rfl (hval 0 24 v0 rfl rfl) h0
  obtain ⟨l1, a1⟩ := arg_Vts hsz (j := 1) rfl rfl (hval 1 31 v1 rfl rfl) h1
  obtain ⟨row2, d2, rfl, _, rfl, b2⟩ := arg_Vt hsz (j := 2) rfl rfl (hval 2 33 v2 rfl rfl) h2
  exact tallyCounts_law v0 v1 l0 l1 d2 W a0 a1 b2

theorem tallyCounts_holds : Rows.TallyCountsSaid :=
  OpenClaim.holds_of_wide 4 Try.f4 rfl rfl rfl rfl rfl rfl rfl ⟨rfl, rfl, rfl, rfl, rfl⟩ rfl rfl rfl rfl rfl (by kernel_rfl) Try.func4 (by kernel_rfl)
    (of_decide_eq_true (by kernel_rfl)) (by unfold Func.isWrapper; first | (rw [if_pos (by decide +kernel)]; kernel_rfl) | (rw [if_neg (by decide +kernel)]; exact ⟨rfl, rfl⟩))
    (fun os started H enc _ => tallyCounts_lifted os started H enc)
#print axioms tallyCounts_holds

end Go.Proofs.Ytmhmkaginnddeaa
