/- The statement TallyOne: one value. -/
import Derived.Test.YtmhmkaginnddeaaTlV
import Derived.Test.YtmhmkaginnddeaaTlRa
import Derived.Test.YtmhmkaginnddeaaArgI
namespace Go.Proofs.Ytmhmkaginnddeaa
set_option maxRecDepth 100000
open Go.RowKit Go.ChangeShapes Go.WideShapes Go.ChangeAt

theorem in64_wrap64 (n : Int) : In64 (wrap64 n) := by
  unfold In64 wrap64
  omega
theorem picks_len_mono {p q : Nat → Bool} (n : Nat) (h : ∀ i, p i = true → q i = true) : (picks p n).length ≤ (picks q n).length := by
  unfold picks
  rw [List.length_map, List.length_map, ← List.countP_eq_length_filter, ← List.countP_eq_length_filter]
  exact List.countP_mono_left fun i _ => h i
theorem who_le_all (T : Tab) (n : Nat) (k w x : Int) : (T.who n k w x).length ≤ (T.all n k w).length := picks_len_mono n fun i h => by
  unfold Tab.any; rw [Tab.has_iff.1 h]; rfl
theorem allR {X : Nat → Prop} {w : World} {p : Nat} {t : List Int} {T : Tab} {N : Nat} {k v : Int} (h : Tal X w p t T N) (hN : N ≤ 400) (hk : In64 k) (hv : In64 v) {L : List Int} (hL : T.all t.length k v = L) :
    Calls Try.prog 14 #[.pointer (some ⟨p, 0, none⟩), .int .i64 k, .int .i64 v] w fun e w' => ∃ u, e = .returned u ∧ Ext w w' ∧ (Sp.ints L).p u w' := by
  refine (TAll_any h hN hk hv hL).mono ?_
  rintro e w' ⟨u, rfl, o, hx⟩
  exact ⟨u, rfl, hx, o.ints⟩

set_option maxRecDepth 100000 in
set_option maxHeartbeats 12800000 in
theorem tallyOne_law (v0 v1 : Value) (t : List Int) (l : List VtD) (d : VtD) (W : World) (a0 : Ints W v0 t) (a1 : Recs 4 VtR W v1 l) (bd : d.Fit) :
    Calls Try.prog 6 #[v0, v1, .agg (vrow d).toArray] W fun e w' => e = .returned (.bool true) ∧ Ext W w' := by
  refine calls_keep ?_
  have hs := hide_ a0
  have hl := hide_ a1
  have hX := Ext.refl W
  have hone := hide_ (Sl.one' a0)
  by_cases hst0 : StOk t
  rotate_left
  · have hck := hide_ (show (chk t : Int) = 31 from by rw [chk_no hst0]; rfl)
    clear hst0 a0 a1 bd
    go_enter Try.func6, Try.ntmps6
    go_wp2_with ((first
      | go_big_skip
      | ((with_reducible refine at_box ?_); refine w_box _ (vrow d) rfl rfl rfl rfl ?_; intro b5 w1 hb5 hx f5; replace hX := hX.trans hx; clear hx)
      | (go_at_call 12; refine (tallyAlive_any _).mono ?_; rintro e w7 ⟨rfl, hx⟩; replace hX := hX.trans hx; clear hx)
      | (go_at_call 15; refine (checkB (hs.out.ext hX) hck.out).mono ?_; rintro e w7 ⟨rfl, hx⟩; replace hX := hX.trans hx; clear hx)
      | fail) <;> (try simp only [Act.put, List.setIfInBounds_toArray, List.set_cons_zero, List.set_cons_succ]))
    go_ret
    exact Keep.intro ⟨rfl, hX⟩
  have hck := hide_ (show (chk t : Int) = 0 from by rw [chk_ok hst0]; rfl)
  have hst := hide_ hst0
  have hdk := hide_ (show In64 d.k from bd.k)
  have hdw := hide_ (show In64 d.w from bd.w)
  clear hst0 a0 a1 bd
  by_cases hbig : 60 < l.length
  · have t0 : decide ((60 : Int) < (l.length : Int)) = true := by simp; omega
    clear hbig
    go_enter Try.func6, Try.ntmps6
    go_wp2_with ((first
      | go_big_skip
      | ((with_reducible refine at_box ?_); refine w_box _ (vrow d) rfl rfl rfl rfl ?_; intro b5 w1 hb5 hx f5; replace hX := hX.trans hx; clear hx)
      | (go_at_call 12; refine (tallyAlive_any _).mono ?_; rintro e w7 ⟨rfl, hx⟩; replace hX := hX.trans hx; clear hx)
      | (go_at_call 15; refine (checkB (hs.out.ext hX) hck.out).mono ?_; rintro e w7 ⟨rfl, hx⟩; replace hX := hX.trans hx; clear hx)
      | ((with_reducible refine at_bi ?_); (try refine w_yes _ _ _ rfl rfl rfl ?_); refine w_rlen Try.elVt _ rfl rfl rfl (hl.out.ext VtR.stays hX) ?_)
      | fail) <;> (try simp only [Act.put, List.setIfInBounds_toArray, List.set_cons_zero, List.set_cons_succ]))
    go_ret
    exact Keep.intro ⟨rfl, hX⟩
  have t0 : decide ((60 : Int) < (l.length : Int)) = false := by simp; omega
  have h60 := hide_ (show l.length ≤ 60 from by omega)
  have hN := hide_ (show l.length ≤ 400 from by omega)
  clear hbig
  obtain ⟨A, hA0⟩ : ∃ A, ofV (votesOf t.length l) = A := ⟨_, rfl⟩
  have hA := hide_ hA0
  obtain ⟨r, hr0⟩ : ∃ r, A.mostOf t d.k d.w = r := ⟨_, rfl⟩
  have hr := hide_ hr0
  obtain ⟨xr, hxr0⟩ : ∃ xr, r.getD 0 = xr := ⟨_, rfl⟩
  obtain ⟨qr, hqr0⟩ : ∃ qr, r.isSome = qr := ⟨_, rfl⟩
  have hxr := hide_ hxr0
  have hqr := hide_ hqr0
  have hmst := hide_ (show ∀ y, A.Mst t d.k d.w y → qr = true ∧ xr = y from fun y h => by
    have h1 := (Tab.mostOf_iff hst.out).2 h
    rw [hr0] at h1
    rw [← hqr0, ← hxr0, h1]
    exact ⟨rfl, rfl⟩)
  have hrev := hide_ (show qr = true → ∃ y, A.Mst t d.k d.w y from fun e => by
    cases r with
    | none => rw [← hqr0] at e; cases e
    | some y => exact ⟨y, (Tab.mostOf_iff hst.out).1 hr0⟩)
  obtain ⟨L, hL0⟩ : ∃ L, A.all t.length d.k d.w = L := ⟨_, rfl⟩
  obtain ⟨WL, hWL0⟩ : ∃ WL, A.who t.length d.k d.w d.x = WL := ⟨_, rfl⟩
  have hle := hide_ (show decide (WL.length ≤ L.length) = true from decide_eq_true (by rw [← hL0, ← hWL0]; exact who_le_all _ _ _ _ _))
  have hLe := hide_ hL0
  have hWL := hide_ hWL0
  clear hA0 hr0 hxr0 hqr0 hL0 hWL0
  go_enter Try.func6, Try.ntmps6
  go_wp2_with ((first
    | go_big_skip
    | ((with_reducible refine at_box ?_); refine w_box _ (vrow d) rfl rfl rfl rfl ?_; intro b5 w1 hb5 hx f5; replace hX := hX.trans hx; clear hx)
    | (go_at_call 12; refine (tallyAlive_any _).mono ?_; rintro e w7 ⟨rfl, hx⟩; replace f5 := f5.ext hx; replace hX := hX.trans hx; clear hx)
    | (go_at_call 15; refine (checkB (hs.out.ext hX) hck.out).mono ?_; rintro e w7 ⟨rfl, hx⟩; replace f5 := f5.ext hx; replace hX := hX.trans hx; clear hx)
    | ((with_reducible refine at_bi ?_); (try refine w_yes _ _ _ rfl rfl rfl ?_); refine w_rlen Try.elVt _ rfl rfl rfl (hl.out.ext VtR.stays hX) ?_)
    | (go_at_call 16; refine (countedS (hs.out.ext hX) hst.out (hl.out.ext VtR.stays hX) (by have := h60.out; omega) hX).mono ?_; rintro e w3 ⟨p1, u1, rfl, hT1, hu1, hx⟩; rw [hA.out] at hT1; have ou1 := hide_ hu1.one; clear hu1; replace f5 := f5.ext hx; replace hX := hX.trans hx; clear hx)
    | ((with_reducible refine at_ext ?_); refine wpList_runs rfl (runs_extract rfl rfl rfl) ?_; simp only [List.getElem_toArray, List.getElem_cons_succ, List.getElem_cons_zero])
    | ((with_reducible refine at_alloc ?_); refine w_alloc (o := ⟨some 8, _, _, _, _, _⟩) Try.stTy rfl rfl ?_; intro b8 w4 hb8 hx8 f8)
    | ((with_reducible refine at_store ?_); refine w_astore Try.stTy (us := [v0, u1]) _ _ rfl rfl rfl rfl rfl f8 rfl rfl (by intro z hz; simp at hz; rcases hz with rfl | rfl; exact hone.out; exact ou1.out) ?_; intro w5 hm5 _; have hx := hm5.after hx8 (fun i e => by have e' : i = b8 := e; rw [e']; exact hb8); replace hT1 := hT1.ext hx; replace f5 := f5.ext hx; replace hX := hX.trans hx; clear hx hm5 hx8 hb8 f8)
    | ((with_reducible refine at_field ?_); refine w_field Try.stVt _ _ _ rfl rfl rfl (by omega) ?_)
    | ((with_reducible refine at_load ?_); refine w_fload _ rfl rfl rfl f5 rfl (agg_of (by kernel_rfl)) ?_)
    | (go_at_call 11; refine (TMost_any (p := p1) hT1 hN.out hdk.out hdw.out hr.out).mono ?_; rintro e w5 ⟨he, hx⟩; rw [hxr.out, hqr.out] at he; subst he; replace hT1 := hT1.ext hx; replace f5 := f5.ext hx; replace hX := hX.trans hx; clear hx)
    | (go_at_call 14; refine (TAll_any (p := p1) hT1 hN.out hdk.out hdw.out hLe.out).mono ?_; rintro e w5 ⟨ua, rfl, oa, hx⟩; replace hT1 := hT1.ext hx; replace f5 := f5.ext hx; replace hX := hX.trans hx; clear hx)
    | ((with_reducible refine at_bi ?_); refine i_len _ rfl rfl rfl oa.ints ?_)
    | fail) <;> (try simp only [Act.put, List.setIfInBounds_toArray, List.set_cons_zero, List.set_cons_succ]))
  have hT1' := hide_ hT1
  have hoa := hide_ oa.ints
  have hX1 := hide_ hX
  have f51 := hide_ f5
  have htab := hide_ hT1.ok
  have hLm := hide_ (show ∀ x, x ∈ L ↔ ∃ i : Nat, i < t.length ∧ A.any d.k d.w i = true ∧ x = (i : Int) from by rw [← hLe.out]; exact fun x => mem_picks)
  have hL7 := hide_ (show L.length ≤ 7 from by rw [← hLe.out]; have h1 := picks_len (A.any d.k d.w) t.length; have h2 := hst.out.2.1; show (picks _ _).length ≤ 7; omega)
  clear hT1 oa f5
  have hT1 := hT1'
  clear hT1'
  go_loopw [52, 12] (fun u52 u12 wr => ∃ i m : Nat, u52 = .int .i64 i ∧ u12 = .int .i64 m ∧ i ≤ L.length ∧ m ≤ i ∧ Hid (0 < m ↔ ∃ (j : Nat) (y : Int), j < i ∧ fat (A d.k d.w) (L.getD j 0) = some y ∧ A.Mst t d.k d.w y) ∧ Ext w5 wr) (fun i _ _ => L.length - (intOf i).toNat)
  case atStart => exact ⟨0, 0, rfl, rfl, Nat.zero_le _, Nat.le_refl _, ⟨fun h => absurd h (by omega), fun ⟨_, _, h, _⟩ => by omega⟩, Ext.refl _⟩
  case round =>
    clear hX
    obtain ⟨i, m, rfl, rfl, hi, hmi, hcnt, hY⟩ := hrel
    have hX := hX1.out.trans hY
    have f5 := f51.out.ext hY
    by_cases hlt0 : i < L.length
    · have hlt := hide_ hlt0
      have tl : decide (i < L.length) = true := decide_eq_true hlt0
      have hi7 : i ≤ 7 := by have := hL7.out; omega
      obtain ⟨nd, hnd, hany, hli0⟩ := (hLm.out L[i]).1 (List.getElem_mem hlt0)
      have hli := hide_ hli0
      obtain ⟨y, hy0⟩ := Option.isSome_iff_exists.1 hany
      have hvote := hide_ (show fat (A d.k d.w) (nd : Int) = some y from by rw [fat_nat]; exact hy0)
      have hj := hide_ (In64.nat (n := nd) (by have := hst.out.2.1; omega))
      have hno := hide_ (show ∀ x, addOk t.length A d.k d.w (nd : Int) x = false from fun x => decide_eq_false fun h => by have h2 := h.2.2; rw [fat_nat, hy0] at h2; cases h2)
      have hyb := hide_ (show In64 y from by have := (htab.out _ _ _ _ hy0).2.2.2; unfold In64; omega)
      obtain ⟨qm, hqm0⟩ : ∃ qm, most t (A.who t.length d.k d.w y) = qm := ⟨_, rfl⟩
      have hqm := hide_ hqm0
      have hws := hide_ (picks_i64s (A.has d.k d.w y) hst.out.2.1)
      have e1 : L.getD i 0 = (nd : Int) := (getD_at L hlt0).trans hli0
      have hnxt := hide_ (show ∀ m' : Nat, m' = (if qm = true then m + 1 else m) → (0 < m' ↔ ∃ (j : Nat) (z : Int), j < i + 1 ∧ fat (A d.k d.w) (L.getD j 0) = some z ∧ A.Mst t d.k d.w z) from fun m' e => by
        constructor
        · intro hm
          by_cases hq : qm = true
          · exact ⟨i, y, by omega, e1 ▸ hvote.out, hqm0.trans hq⟩
          · rw [if_neg hq] at e
            obtain ⟨j, z, h1, h2, h3⟩ := hcnt.out.1 (by omega)
            exact ⟨j, z, by omega, h2, h3⟩
        · rintro ⟨j, z, h1, h2, h3⟩
          by_cases hji : j < i
          · have := hcnt.out.2 ⟨j, z, hji, h2, h3⟩
            split at e <;> omega
          · have hji' : j = i := by omega
            subst hji'
            have hz : fat (A d.k d.w) (nd : Int) = some z := e1 ▸ h2
            have hyz := hvote.out.symm.trans hz
            injection hyz with hyz
            subst hyz
            have h3' : most t (A.who t.length d.k d.w y) = true := h3
            rw [hqm0] at h3'
            rw [if_pos h3'] at e
            omega)
      have hmq := hide_ (show qm = true → qr = true ∧ xr = y from fun e => hmst.out y (hqm0.trans e))
      clear hlt0 hnd hany hli0 hy0 hqm0 e1 hcnt
      cases qm
      · have hn2 := hide_ (hnxt.out m rfl)
        go_wp2_with ((first
          | go_big_skip
          | ((with_reducible refine at_idx ?_); refine i_idx _ _ i rfl rfl rfl (hoa.out.ext hY) rfl hlt.out ?_; intro ad had; replace had := had.trans (congrArg (fun z => some (Value.int .i64 z)) hli.out))
          | ((with_reducible refine at_field ?_); (try refine w_yes _ _ _ rfl rfl rfl ?_); refine w_field Try.stVt _ _ _ rfl rfl rfl (by omega) ?_)
          | ((with_reducible refine at_load ?_); (try refine w_yes _ _ _ rfl rfl rfl ?_); refine w_fload _ rfl rfl rfl f5 rfl (agg_of (by kernel_rfl)) ?_)
          | (go_at_call 17; refine (TVote_any (hT1.out.ext hY) hdk.out hdw.out hj.out hvote.out).mono ?_; rintro e w6 ⟨he, hw6⟩; replace he : e = .returned (.tuple #[.int .i64 y, .bool true]) := he; subst he; replace hw6 := hw6.symm; subst hw6)
          | ((with_reducible refine at_ext ?_); refine wpList_runs rfl (runs_extract rfl rfl rfl) ?_; simp only [List.getElem_toArray, List.getElem_cons_succ, List.getElem_cons_zero])
          | (go_at_call 26; refine (TAdd_any (hT1.out.ext hY) (by have := hN.out; omega) hdk.out hdw.out hj.out (in64_wrap64 _)).mono ?_; rintro e w7 ⟨_, he, _, _, hx0⟩; have hx := hx0 (hno.out _); rw [hno.out] at he; subst he; replace f5 := f5.ext hx; replace hY := hY.trans hx; replace hX := hX.trans hx; clear hx hx0)
          | (go_at_call 23; refine (TWho_any (hT1.out.ext hY) hN.out hdk.out hdw.out rfl).mono ?_; rintro e w7 ⟨uw, rfl, ow, hx⟩; replace f5 := f5.ext hx; replace hY := hY.trans hx; replace hX := hX.trans hx; clear hx)
          | (go_at_call 27; refine (rmostR ⟨hst.out, hs.out.ext hX, ow.ints, hws.out.1, hws.out.2⟩ hqm.out).mono ?_; rintro e w7 ⟨z, rfl, hx, hz⟩; replace hz : z = .bool false := hz; subst hz; replace f5 := f5.ext hx; replace hY := hY.trans hx; replace hX := hX.trans hx; clear hx ow)
          | fail) <;> (try simp only [Act.put, List.setIfInBounds_toArray, List.set_cons_zero, List.set_cons_succ]))
        go_roundw
        case rel => exact ⟨i + 1, m, by go_num, rfl, by have := hlt.out; omega, by omega, hn2.out, hY⟩
        case measure => have := hlt.out; simp [intOf]; omega
      · have hn2 := hide_ (hnxt.out (m + 1) rfl)
        obtain ⟨hq1, hx1⟩ := hmq.out rfl
        subst hq1 hx1
        have t9 : (xr != xr) = false := by simp
        go_wp2_with ((first
          | go_big_skip
          | ((with_reducible refine at_idx ?_); refine i_idx _ _ i rfl rfl rfl (hoa.out.ext hY) rfl hlt.out ?_; intro ad had; replace had := had.trans (congrArg (fun z => some (Value.int .i64 z)) hli.out))
          | ((with_reducible refine at_field ?_); (try refine w_yes _ _ _ rfl rfl rfl ?_); refine w_field Try.stVt _ _ _ rfl rfl rfl (by omega) ?_)
          | ((with_reducible refine at_load ?_); (try refine w_yes _ _ _ rfl rfl rfl ?_); refine w_fload _ rfl rfl rfl f5 rfl (agg_of (by kernel_rfl)) ?_)
          | (go_at_call 17; refine (TVote_any (hT1.out.ext hY) hdk.out hdw.out hj.out hvote.out).mono ?_; rintro e w6 ⟨he, hw6⟩; replace he : e = .returned (.tuple #[.int .i64 xr, .bool true]) := he; subst he; replace hw6 := hw6.symm; subst hw6)
          | ((with_reducible refine at_ext ?_); refine wpList_runs rfl (runs_extract rfl rfl rfl) ?_; simp only [List.getElem_toArray, List.getElem_cons_succ, List.getElem_cons_zero])
          | (go_at_call 26; refine (TAdd_any (hT1.out.ext hY) (by have := hN.out; omega) hdk.out hdw.out hj.out (in64_wrap64 _)).mono ?_; rintro e w7 ⟨_, he, _, _, hx0⟩; have hx := hx0 (hno.out _); rw [hno.out] at he; subst he; replace f5 := f5.ext hx; replace hY := hY.trans hx; replace hX := hX.trans hx; clear hx hx0)
          | (go_at_call 23; refine (TWho_any (hT1.out.ext hY) hN.out hdk.out hdw.out rfl).mono ?_; rintro e w7 ⟨uw, rfl, ow, hx⟩; replace f5 := f5.ext hx; replace hY := hY.trans hx; replace hX := hX.trans hx; clear hx)
          | (go_at_call 27; refine (rmostR ⟨hst.out, hs.out.ext hX, ow.ints, hws.out.1, hws.out.2⟩ hqm.out).mono ?_; rintro e w7 ⟨z, rfl, hx, hz⟩; replace hz : z = .bool true := hz; subst hz; replace f5 := f5.ext hx; replace hY := hY.trans hx; replace hX := hX.trans hx; clear hx ow)
          | fail) <;> (try simp only [Act.put, List.setIfInBounds_toArray, List.set_cons_zero, List.set_cons_succ]))
        go_roundw
        case rel => exact ⟨i + 1, m + 1, by go_num, by go_num, by have := hlt.out; omega, by omega, hn2.out, hY⟩
        case measure => have := hlt.out; simp [intOf]; omega
    · have tl : decide (i < L.length) = false := decide_eq_false hlt0
      have hcq := hide_ (show decide (0 < m) = qr from by
        rw [Bool.eq_iff_iff, decide_eq_true_iff, hcnt.out]
        constructor
        · rintro ⟨j, y, _, _, h3⟩; exact (hmst.out y h3).1
        · intro e
          obtain ⟨y, hy⟩ := hrev.out e
          obtain ⟨nd, hnd, hv⟩ := hy.one hst.out
          have hmem : (nd : Int) ∈ L := (hLm.out _).2 ⟨nd, hnd, by unfold Tab.any; rw [hv]; rfl, rfl⟩
          obtain ⟨j, hj, he⟩ := List.getElem_of_mem hmem
          exact ⟨j, y, by omega, ((getD_at L hj).trans he) ▸ ((fat_nat (A d.k d.w) nd).trans hv), hy⟩)
      have f5r := f5
      have hT1r := TalS.ext hT1.out hY
      clear hlt0 hcnt
      go_wp2
      refine wp_region_phx (by kernel_rfl) ?_; intro wd hxd; have F5 := f5r.ext hxd; have H1 := hT1r.ext hxd
      refine Ph.rest 0 24 (by kernel_rfl) ?_
      refine LinL.step (s := (.val (.bool qr))) [(11, none)] rfl (by kernel_rfl) (op_out 11 (.bool qr) rfl (.inl rfl) rfl) ?_
      refine LinL.step (s := (.val (.int .i64 (m : Nat)))) [(12, none)] rfl (by kernel_rfl) (op_out 12 (.int .i64 (m : Nat)) rfl (.inl rfl) rfl) ?_
      refine LinL.step (s := (.val (.bool qr))) [(112, some 0)] rfl (by kernel_rfl) (op_runs rfl fun σ w' hx hg => ⟨(.bool qr), by have h112 : σ.tmps.getD 112 undef = .int .i64 (m : Nat) := hg.1; unfold Runs execOp; simp [Act.eval, h112, go_sem, hcq.out], rfl⟩) ?_
      refine LinL.step (s := (.val (.bool true))) [(111, some 2), (113, some 0)] rfl (by kernel_rfl) (op_runs rfl fun σ w' hx hg => ⟨(.bool true), by have h111 : σ.tmps.getD 111 undef = .bool qr := hg.1; have h113 : σ.tmps.getD 113 undef = .bool qr := hg.2.1; unfold Runs execOp; simp [Act.eval, h111, h113, go_sem], rfl⟩) ?_
      refine LinL.step (s := (.val (.bool true))) [(114, some 0)] rfl (by kernel_rfl) (op_copy 114 0 (.val (.bool true)) rfl (.inl rfl) rfl) ?_
      refine LinL.step (s := (.val (.pointer (some ⟨p1, 0, none⟩)))) [(7, none), (115, some 0)] rfl (by kernel_rfl) (op_yes (reads := [(7, none)]) 4 115 0 true rfl rfl rfl (op_out 7 (.pointer (some ⟨p1, 0, none⟩)) rfl (.inl rfl) rfl)) ?_
      refine LinL.step (s := (.val (.pointer (some ⟨b5, 0, none⟩)))) [(5, none), (115, some 1)] rfl (by kernel_rfl) (op_yes (reads := [(5, none)]) 4 115 1 true rfl rfl rfl (op_runs rfl fun σ w' hx hg => ⟨_, runs_field (ρ := σ.eval) (w := w') Try.stVt (.tmp 5) b5 0 rfl hg.1 (by omega), rfl⟩)) ?_
      refine LinL.step (s := (.val (.int .i64 d.k))) [(117, some 0), (115, some 2)] rfl (by kernel_rfl) (op_yes (reads := [(117, some 0)]) 4 115 2 true rfl rfl rfl (op_runs rfl fun σ w' hx hg => ⟨_, runs_fload (ρ := σ.eval) (w := w') (.tmp 117) rfl hg.1 (agg_of (by kernel_rfl) _) (F5.ext hx) rfl, rfl⟩)) ?_
      refine LinL.step (s := (.val (.pointer (some ⟨b5, 1, none⟩)))) [(5, none), (115, some 3)] rfl (by kernel_rfl) (op_yes (reads := [(5, none)]) 4 115 3 true rfl rfl rfl (op_runs rfl fun σ w' hx hg => ⟨_, runs_field (ρ := σ.eval) (w := w') Try.stVt (.tmp 5) b5 1 rfl hg.1 (by omega), rfl⟩)) ?_
      refine LinL.step (s := (.val (.int .i64 d.w))) [(119, some 0), (115, some 4)] rfl (by kernel_rfl) (op_yes (reads := [(119, some 0)]) 4 115 4 true rfl rfl rfl (op_runs rfl fun σ w' hx hg => ⟨_, runs_fload (ρ := σ.eval) (w := w') (.tmp 119) rfl hg.1 (agg_of (by kernel_rfl) _) (F5.ext hx) rfl, rfl⟩)) ?_
      refine LinL.step (s := (.val (.pointer (some ⟨b5, 3, none⟩)))) [(5, none), (115, some 5)] rfl (by kernel_rfl) (op_yes (reads := [(5, none)]) 4 115 5 true rfl rfl rfl (op_runs rfl fun σ w' hx hg => ⟨_, runs_field (ρ := σ.eval) (w := w') Try.stVt (.tmp 5) b5 3 rfl hg.1 (by omega), rfl⟩)) ?_
      refine LinL.step (s := (.val (.int .i64 d.x))) [(121, some 0), (115, some 6)] rfl (by kernel_rfl) (op_yes (reads := [(121, some 0)]) 4 115 6 true rfl rfl rfl (op_runs rfl fun σ w' hx hg => ⟨_, runs_fload (ρ := σ.eval) (w := w') (.tmp 121) rfl hg.1 (agg_of (by kernel_rfl) _) (F5.ext hx) rfl, rfl⟩)) ?_
      refine LinL.step (s := (Sp.ints WL)) [(116, some 6), (118, some 4), (120, some 2), (122, some 0), (115, some 7)] rfl (by kernel_rfl) (op_yes (reads := [(116, some 6), (118, some 4), (120, some 2), (122, some 0)]) 4 115 7 true rfl rfl rfl (op_calls 23 #[(.tmp 116), (.tmp 118), (.tmp 120), (.tmp 122)] #[22, 3, 3, 3] (fun σ => #[.pointer (some ⟨p1, 0, none⟩), .int .i64 d.k, .int .i64 d.w, .int .i64 d.x]) rfl rfl (fun _ _ => rfl) fun σ w' hx hg => ⟨by have h116 : σ.tmps.getD 116 undef = .pointer (some ⟨p1, 0, none⟩) := hg.1; have h118 : σ.tmps.getD 118 undef = .int .i64 d.k := hg.2.1; have h120 : σ.tmps.getD 120 undef = .int .i64 d.w := hg.2.2.1; have h122 : σ.tmps.getD 122 undef = .int .i64 d.x := hg.2.2.2.1; simp only [List.map_toArray, List.map_cons, List.map_nil, Act.eval, h116, h118, h120, h122], whoR (H1.ext hx) hN.out hdk.out hdw.out hWL.out⟩)) ?_
      refine LinL.step (s := (.val (.int .i64 (WL.length : Nat)))) [(123, some 0), (115, some 8)] rfl (by kernel_rfl) (op_yes (reads := [(123, some 0)]) 4 115 8 true rfl rfl rfl (op_runs rfl fun σ w' hx hg => ⟨_, runs_len (ρ := σ.eval) (w := w') Try.elI (.tmp 123) rfl rfl hg.1, by show _ = _; rw [i64s_length]⟩)) ?_
      refine LinL.step (s := (.val (.pointer (some ⟨p1, 0, none⟩)))) [(7, none), (115, some 9)] rfl (by kernel_rfl) (op_yes (reads := [(7, none)]) 4 115 9 true rfl rfl rfl (op_out 7 (.pointer (some ⟨p1, 0, none⟩)) rfl (.inl rfl) rfl)) ?_
      refine LinL.step (s := (.val (.pointer (some ⟨b5, 0, none⟩)))) [(5, none), (115, some 10)] rfl (by kernel_rfl) (op_yes (reads := [(5, none)]) 4 115 10 true rfl rfl rfl (op_runs rfl fun σ w' hx hg => ⟨_, runs_field (ρ := σ.eval) (w := w') Try.stVt (.tmp 5) b5 0 rfl hg.1 (by omega), rfl⟩)) ?_
      refine LinL.step (s := (.val (.int .i64 d.k))) [(126, some 0), (115, some 11)] rfl (by kernel_rfl) (op_yes (reads := [(126, some 0)]) 4 115 11 true rfl rfl rfl (op_runs rfl fun σ w' hx hg => ⟨_, runs_fload (ρ := σ.eval) (w := w') (.tmp 126) rfl hg.1 (agg_of (by kernel_rfl) _) (F5.ext hx) rfl, rfl⟩)) ?_
      refine LinL.step (s := (.val (.pointer (some ⟨b5, 1, none⟩)))) [(5, none), (115, some 12)] rfl (by kernel_rfl) (op_yes (reads := [(5, none)]) 4 115 12 true rfl rfl rfl (op_runs rfl fun σ w' hx hg => ⟨_, runs_field (ρ := σ.eval) (w := w') Try.stVt (.tmp 5) b5 1 rfl hg.1 (by omega), rfl⟩)) ?_
      refine LinL.step (s := (.val (.int .i64 d.w))) [(128, some 0), (115, some 13)] rfl (by kernel_rfl) (op_yes (reads := [(128, some 0)]) 4 115 13 true rfl rfl rfl (op_runs rfl fun σ w' hx hg => ⟨_, runs_fload (ρ := σ.eval) (w := w') (.tmp 128) rfl hg.1 (agg_of (by kernel_rfl) _) (F5.ext hx) rfl, rfl⟩)) ?_
      refine LinL.step (s := (Sp.ints L)) [(125, some 4), (127, some 2), (129, some 0), (115, some 14)] rfl (by kernel_rfl) (op_yes (reads := [(125, some 4), (127, some 2), (129, some 0)]) 4 115 14 true rfl rfl rfl (op_calls 14 #[(.tmp 125), (.tmp 127), (.tmp 129)] #[22, 3, 3] (fun σ => #[.pointer (some ⟨p1, 0, none⟩), .int .i64 d.k, .int .i64 d.w]) rfl rfl (fun _ _ => rfl) fun σ w' hx hg => ⟨by have h125 : σ.tmps.getD 125 undef = .pointer (some ⟨p1, 0, none⟩) := hg.1; have h127 : σ.tmps.getD 127 undef = .int .i64 d.k := hg.2.1; have h129 : σ.tmps.getD 129 undef = .int .i64 d.w := hg.2.2.1; simp only [List.map_toArray, List.map_cons, List.map_nil, Act.eval, h125, h127, h129], allR (H1.ext hx) hN.out hdk.out hdw.out hLe.out⟩)) ?_
      refine LinL.step (s := (.val (.int .i64 (L.length : Nat)))) [(130, some 0), (115, some 15)] rfl (by kernel_rfl) (op_yes (reads := [(130, some 0)]) 4 115 15 true rfl rfl rfl (op_runs rfl fun σ w' hx hg => ⟨_, runs_len (ρ := σ.eval) (w := w') Try.elI (.tmp 130) rfl rfl hg.1, by show _ = _; rw [i64s_length]⟩)) ?_
      refine LinL.step (s := (.val (.bool true))) [(124, some 7), (131, some 0), (115, some 16)] rfl (by kernel_rfl) (op_yes (reads := [(124, some 7), (131, some 0)]) 4 115 16 true rfl rfl rfl (op_runs rfl fun σ w' hx hg => ⟨(.bool true), by have h124 : σ.tmps.getD 124 undef = .int .i64 (WL.length : Nat) := hg.1; have h131 : σ.tmps.getD 131 undef = .int .i64 (L.length : Nat) := hg.2.1; unfold Runs execOp; simp [Act.eval, h124, h131, go_sem, hle.out], rfl⟩)) ?_
      refine LinL.step (s := (.val (.bool true))) [(115, some 17), (132, some 0)] rfl (by kernel_rfl) (op_runs rfl fun σ w' hx hg => ⟨_, runs_pick_t (ρ := σ.eval) (w := w') (.tmp 115) (.tmp 132) (.const (.bool false)) rfl hg.1 hg.2.1, rfl⟩) ?_
      refine LinL.step (s := (.val (.bool true))) [(133, some 0)] rfl (by kernel_rfl) (op_copy 133 0 (.val (.bool true)) rfl (.inr rfl) rfl) ?_
      intro wN hxN
      simp only [Fin', Sp.ints, List.reverse_cons, List.reverse_nil, List.nil_append, List.cons_append, List.drop_zero, List.take_succ_cons, List.take_zero]
      intro q123 hq123 q130 hq130
      simp only [Act.put, List.setIfInBounds_toArray, List.set_cons_zero, List.set_cons_succ]
      replace hX := hX.trans (hxd.trans hxN)
      go_wp2
      go_ret
      exact Keep.intro ⟨rfl, hX⟩

set_option maxRecDepth 100000 in
theorem tallyOne_lifted (os : Os) (started : os.Started) (H : Type) (enc : TypeId × Value → H) :
    ReturnsInHanded {} Try.checked os 6 .any (Rows.tallyOneSpec.pre6 enc Try.prog Try.f6 Rows.tallyOneRow.domain false) (Rows.tallyOneSpec.post enc Try.prog Try.f6 false true false false) := by
  refine law_lifted (s := Rows.tallyOneSpec) (conds := Rows.tallyOneRow.domain) Try.func6 (by kernel_rfl) rfl (fun H ds h => by
      rw [show Try.f6.params.size = 3 from rfl] at h
      match ds, h with
      | [d0, d1, d2], _ => rfl) rfl rfl (by decide +kernel) os started H enc
    (ChangeSpec.witness6 (enc := enc) (C := Try.checked) false ⟨#[], #[.slice none 0 0, .slice none 0 0, .agg #[.int .i64 0, .int .i64 0, .int .i64 0, .int .i64 0]], []⟩ 8 (by kernel_rfl) (by kernel_rfl) (by kernel_rfl) (by kernel_rfl)) ?_
  intro W base args ds p hval hA hsz _
  have hp : Try.f6.params.toList = [24, 31, 33] := rfl
  rw [hp] at hA hsz
  obtain ⟨v0, v1, v2, d0, d1, d2, p0, p1, p2, rfl, rfl, rfl, h0, h1, h2⟩ := trodAll_three hA
  obtain ⟨l0, a0, b0, c0⟩ := arg_ints hsz (j := 0) rfl rfl (hval 0 24 v0 rfl rfl) h0
  obtain ⟨l1, a1⟩ := arg_Vts hsz (j := 1) rfl rfl (hval 1 31 v1 rfl rfl) h1
  obtain ⟨row2, d2, rfl, _, rfl, b2⟩ := arg_Vt hsz (j := 2) rfl rfl (hval 2 33 v2 rfl rfl) h2
  exact tallyOne_law v0 v1 l0 l1 d2 W a0 a1 b2

theorem tallyOne_holds : Rows.TallyOneSaid :=
  OpenClaim.holds_of_wide 6 Try.f6 rfl rfl rfl rfl rfl rfl rfl ⟨rfl, rfl, rfl, rfl, rfl⟩ rfl rfl rfl rfl rfl (by kernel_rfl) Try.func6 (by kernel_rfl)
    (of_decide_eq_true (by kernel_rfl)) (by unfold Func.isWrapper; first | (rw [if_pos (by decide +kernel)]; kernel_rfl) | (rw [if_neg (by decide +kernel)]; exact ⟨rfl, rfl⟩))
    (fun os started H enc _ => tallyOne_lifted os started H enc)
#print axioms tallyOne_holds

end Go.Proofs.Ytmhmkaginnddeaa
