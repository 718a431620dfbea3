/- The statement DiskAgain: a crash behind a crash changes nothing, whatever it keeps; synced, a crash changes nothing at all. No condition. -/
import Derived.Test.YtkcmhbinphgimaaDNames
import Derived.Test.YtkcmhbinphgimaaRecsBB
import Derived.Test.YtkcmhbinphgimaaRegA
import Derived.Test.YtkcmhbinphgimaaArrArg
namespace Go.Proofs.Ytkcmhbinphgimaa
open Go.RowKit Go.ChangeShapes Go.WideShapes Go.ChangeAt

/-- All is synced. -/
theorem DSt.crash_len (D : DSt) (hok : D.Ok) (n : Int) : (D.crash n).s = (D.crash n).l.length := by
  have h1 := hok.s
  have h2 := bet_le n (D.l.length - D.s)
  show _ = (D.l.take _).length
  rw [List.length_take]
  show D.s + bet n (D.l.length - D.s) = _
  omega
theorem DSt.crash_same (D : DSt) (h : D.s = D.l.length) (n : Int) : D.crash n = D := by
  have h2 := bet_le n (D.l.length - D.s)
  have h3 : bet n (D.l.length - D.s) = 0 := by omega
  obtain ⟨l, s, m⟩ := D
  simp only at h h3 ⊢
  unfold DSt.crash
  simp only [h3, Nat.add_zero]
  rw [h, List.take_length]
theorem w_aidx {ops : Array Oper} {rest : List Oper} {o : Oper} {a : Act} {Q : Exit → Act → World → Prop} {w : World} (x : Operand) {g i : Nat} (hgd : o.guard = none) (ho : o.op = .indexAddr 46 x (.const (.int .i64 (i : Int)))) (hx : a.eval x = .pointer (some ⟨g, 0, none⟩)) (hi : i < 2)
    (k : wpList Try.prog ops Q rest (a.put o.dst (.pointer (some ⟨g, i, none⟩))) w) : wpList Try.prog ops Q (o :: rest) a w := by
  have hi0 : ∃ i0, Try.prog.info? 3 = some i0 ∧ i0.size = 1 := by
    have : (Try.prog.info? 3).map (·.size) = some 1 := by kernel_rfl
    cases hq : Try.prog.info? 3 with
    | none => rw [hq] at this; simp at this
    | some j => exact ⟨j, rfl, by simpa [hq] using this⟩
  obtain ⟨i0, h1, h2⟩ := hi0
  have := runs_aidx (P := Try.prog) (o := o) (ρ := a.eval) (w := w) (n := 2) Try.underlying46 h1 h2 x _ ho hx i rfl hi
  rw [add_zero_off] at this
  exact wpList_runs hgd this k
theorem Row.safe {F G : Nat → Prop} {w : World} {e : TypeId} {v : Value} {xs : List Value} (h : Row F w e v xs) (hG : ∀ k, F k → ¬ G k) : Safe G w v xs := ⟨h.sl, fun k hk => hG k (h.inF k hk), fun k hk => h.lt hk⟩

set_option maxRecDepth 100000 in
set_option maxHeartbeats 3200000 in
theorem diskAgain_law (v : Value) (l : List (List Nat)) (x y : Int) (W : World) (hl : Recs 1 BytOk W v l) :
    Calls Try.prog 8 #[v, .agg #[.int .i64 x, .int .i64 y]] W fun e w' => e = .returned (.bool true) ∧ Ext W w' := by
  refine calls_keep ?_
  by_cases hbig : 50 < l.length
  · have t0 : decide ((50 : Int) < (l.length : Int)) = true := by simp; omega
    clear hbig
    go_enter Try.func8, Try.ntmps8
    go_wp2_with (first
      | (refine w_box _ [.int .i64 x, .int .i64 y] rfl rfl rfl rfl ?_; intro g3 W1 hg3 hx0 f3; (try simp only [Act.put, List.setIfInBounds_toArray, List.set_cons_zero, List.set_cons_succ]))
      | (go_at_call 9; refine (alive_any _).mono ?_; rintro e w1 ⟨rfl, hX⟩; (try simp only [Act.put, List.setIfInBounds_toArray, List.set_cons_zero, List.set_cons_succ]))
      | ((try refine w_yes _ _ _ rfl rfl rfl ?_); refine w_rlen Try.elBBS _ rfl rfl rfl (hl.ext BytOk.stays (hx0.trans hX)) ?_; (try simp only [Act.put, List.setIfInBounds_toArray, List.set_cons_zero, List.set_cons_succ]))
      | fail)
    go_ret
    exact Keep.intro ⟨rfl, hx0.trans hX⟩
  have t0 : decide ((50 : Int) < (l.length : Int)) = false := by simp; omega
  have h50 : l.length ≤ 50 := by omega
  clear hbig
  go_enter Try.func8, Try.ntmps8
  go_wp2_with (first
    | (refine w_box _ [.int .i64 x, .int .i64 y] rfl rfl rfl rfl ?_; intro g3 W1 hg3 hx0 f3; replace hl := hl.ext BytOk.stays hx0; (try simp only [Act.put, List.setIfInBounds_toArray, List.set_cons_zero, List.set_cons_succ]))
    | (go_at_call 9; refine (alive_any _).mono ?_; rintro e w1 ⟨rfl, hX⟩; (try simp only [Act.put, List.setIfInBounds_toArray, List.set_cons_zero, List.set_cons_succ]))
    | ((try refine w_yes _ _ _ rfl rfl rfl ?_); refine w_rlen Try.elBBS _ rfl rfl rfl (hl.ext BytOk.stays hX) ?_; (try simp only [Act.put, List.setIfInBounds_toArray, List.set_cons_zero, List.set_cons_succ]))
    | (go_at_call 10; ((with_reducible refine (New_any _ _).mono ?_); rintro e w2 ⟨p, rfl, hx1, hd⟩; have hO := Out.of_new hX hx1 hd; obtain ⟨A, rfl⟩ := hd.ne_nil; clear hX); (try simp only [Act.put, List.setIfInBounds_toArray, List.set_cons_zero, List.set_cons_succ]))
    | ((try refine w_yes _ _ _ rfl rfl rfl ?_); refine w_rlen Try.elBBS _ rfl rfl rfl (hl.ext BytOk.stays hO.ext) ?_; (try simp only [Act.put, List.setIfInBounds_toArray, List.set_cons_zero, List.set_cons_succ]))
    | fail)
  go_loopw [17] (fun i wr => ∃ (k : Nat) (F : Nat → Prop) (D : DSt), i = .int .i64 k ∧ k ≤ l.length ∧ Dsk F wr (.pointer (some A)) D ∧ Out W1 F wr) (fun i _ => l.length - (intOf i).toNat)
  case atStart => exact ⟨0, _, _, rfl, Nat.zero_le _, hd, hO⟩
  case round =>
    clear hd hO
    obtain ⟨k, F, D, rfl, hk, hd, hO⟩ := hrel
    by_cases hlt : k < l.length
    · have hbd := hd.bd
      have hW := hO.ext.size
      have t2 : decide (k < l.length) = true := by simpa using hlt
      cases hp : ((k : Int) % 3 == 0)
      all_goals
        go_wp2_with (first
          | (refine w_ridx0 Try.elBBS _ _ k BytOk.stays rfl rfl rfl rfl hl hO.ext hlt ?_; rintro p row hrow hrl ⟨⟨u, rfl, hu⟩, hokb⟩; (try simp only [Act.put, List.setIfInBounds_toArray, List.set_cons_zero, List.set_cons_succ]))
          | (refine w_cload _ rfl rfl rfl (hrow.ext hO.ext) (agg_of (by kernel_rfl)) ?_; (try simp only [Act.put, List.setIfInBounds_toArray, List.set_cons_zero, List.set_cons_succ]))
          | (refine w_bempty rfl rfl ?_; intro v1 wn B hB1 hBl hxn o1; replace hd := hd.ext hxn; replace hO := hO.extend hxn; have hB2 : wr.heap.size ≤ B := hB1; clear hxn hB1; (try simp only [Act.put, List.setIfInBounds_toArray, List.set_cons_zero, List.set_cons_succ]))
          | (refine appb _ _ rfl rfl rfl rfl o1 (hu.ext hO.ext) (by have := hokb.2; simp; omega) hBl ?_; intro v2 wa o2 hba hga; rw [List.nil_append] at o2; replace hd := hd.mod (Below.toMod hba) (fun j hj (e : B ≤ j) => by have := hbd j hj; omega); replace hO := hO.other (Below.toMod hba) (fun j (e : B ≤ j) => by omega); clear o1 hba hga; (try simp only [Act.put, List.setIfInBounds_toArray, List.set_cons_zero, List.set_cons_succ]))
          | (go_at_call 11; refine (Append_any hd o2.byt).mono ?_; rintro e wz ⟨F', rfl, hup, hd'⟩; replace hO := hO.upd hup; replace hd := hd'; clear hd' hup o2; (try simp only [Act.put, List.setIfInBounds_toArray, List.set_cons_zero, List.set_cons_succ]))
          | (go_at_call 15; refine (Sync_any hd).mono ?_; rintro e wz ⟨rfl, hm, hd'⟩; replace hO := hO.upd hm.upd; replace hd := hd'; clear hd' hm; (try simp only [Act.put, List.setIfInBounds_toArray, List.set_cons_zero, List.set_cons_succ]))
          | fail)
        go_roundw
        case rel => exact ⟨k + 1, _, _, by go_num, by omega, hd, hO⟩
        case measure => simp [intOf]; omega
    · have t2 : decide (k < l.length) = false := by simpa using hlt
      have hss := hd.ok.crash x
      have hs1 := DSt.crash_len D hd.ok x
      obtain ⟨D1, hD1⟩ : ∃ D1, D1 = D.crash x := ⟨_, rfl⟩
      rw [← hD1] at hs1 hss
      have c1 := hide_ hD1.symm
      have c2 := hide_ (DSt.crash_same D1 hs1 y)
      have Hs := hide_ hs1
      have hlen1 := hss.len
      clear hD1 hs1
      go_wp2_with (first
        | (refine w_aidx _ (i := 0) rfl rfl rfl (by omega) ?_; (try simp only [Act.put, List.setIfInBounds_toArray, List.set_cons_zero, List.set_cons_succ]))
        | (refine w_aidx _ (i := 1) rfl rfl rfl (by omega) ?_; (try simp only [Act.put, List.setIfInBounds_toArray, List.set_cons_zero, List.set_cons_succ]))
        | (refine w_fload _ rfl rfl rfl (f3.ext hO.ext) rfl (agg_of (by kernel_rfl)) ?_; (try simp only [Act.put, List.setIfInBounds_toArray, List.set_cons_zero, List.set_cons_succ]))
        | (go_at_call 17; ((with_reducible refine (Crash_any _ hd).mono ?_); rintro e wc ⟨rfl, hmd, hd'⟩; replace hO := hO.upd hmd.upd; replace hd := hd'; rw [c1.out] at hd; clear hd' hmd c1); (try simp only [Act.put, List.setIfInBounds_toArray, List.set_cons_zero, List.set_cons_succ]))
        | (go_at_call 22; refine (Bytes_any hd).mono ?_; rintro e wb ⟨v8, rfl, hxb, h8⟩; have hbd := hd.bd; replace hd := hd.ext hxb; replace hO := hO.extend hxb; have k8 : Safe F wb v8 (u8s D1.l) := h8.safe (fun j hj hF => by have := hj.1; have := hbd j hF; omega); clear h8 hbd; (try simp only [Act.put, List.setIfInBounds_toArray, List.set_cons_zero, List.set_cons_succ]))
        | (go_at_call 17; ((with_reducible refine (Crash_any _ hd).mono ?_); rintro e wc ⟨rfl, hmd, hd'⟩; replace hO := hO.upd hmd.upd; replace hd := hd'; rw [c2.out] at hd; replace k8 := k8.upd hmd.upd; clear hd' hmd); (try simp only [Act.put, List.setIfInBounds_toArray, List.set_cons_zero, List.set_cons_succ]))
        | fail)
      refine wp_region_phx (by kernel_rfl) ?_; intro wd hxd; replace hd := hd.ext hxd; replace k8 := k8.ext hxd; replace hO := hO.extend hxd; have b8 : Byt wd v8 D1.l := k8.sl
      refine Ph.rest 0 13 (by kernel_rfl) ?_
      refine LinL.step (s := (.val (.pointer (some A)))) [(5, none)] rfl (by kernel_rfl) (op_out 5 (.pointer (some A)) rfl (.inl rfl) rfl) ?_
      refine LinL.step (s := (.sl (u8s (D1.l)))) [(43, some 0)] rfl (by kernel_rfl) (op_calls 22 #[(.tmp 43)] #[24] (fun σ => #[.pointer (some A)]) rfl rfl (fun _ _ => rfl) fun σ w' hx hg => ⟨by have h43 : σ.tmps.getD 43 undef = .pointer (some A) := hg.1; simp only [List.map_toArray, List.map_cons, List.map_nil, Act.eval, h43], (Bytes_any (hd.ext hx)).mono fun e w'' ⟨v, he, hx', hr⟩ => ⟨v, he, hx', hr.sl⟩⟩) ?_
      refine LinL.step (s := (.val (.string (strN D1.l)))) [(44, some 0)] rfl (by kernel_rfl) (op_runs rfl fun σ w' hx hg => ⟨_, runs_str (ρ := σ.eval) (w := w') (.tmp 44) rfl rfl hg.1, rfl⟩) ?_
      refine LinL.step (s := (.val (v8))) [(8, none)] rfl (by kernel_rfl) (op_out 8 (v8) rfl (.inl rfl) rfl) ?_
      refine LinL.step (s := (.val (.string (strN D1.l)))) [(46, some 0)] rfl (by kernel_rfl) (op_runs rfl fun σ w' hx hg => ⟨_, runs_str (ρ := σ.eval) (w := w') (.tmp 46) rfl hg.1 (b8.ext hx), rfl⟩) ?_
      refine LinL.step (s := (.val (.bool false))) [(45, some 2), (47, some 0)] rfl (by kernel_rfl) (op_runs rfl fun σ w' hx hg => ⟨(.bool false), by have h45 : σ.tmps.getD 45 undef = .string (strN D1.l) := hg.1; have h47 : σ.tmps.getD 47 undef = .string (strN D1.l) := hg.2.1; unfold Runs execOp; simp [Act.eval, h45, h47, go_sem], rfl⟩) ?_
      refine LinL.step (s := (.val (.bool false))) [(48, some 0)] rfl (by kernel_rfl) (op_copy 48 0 (.val (.bool false)) rfl (.inl rfl) rfl) ?_
      refine LinL.step (s := (.val (.pointer (some A)))) [(5, none), (49, some 0)] rfl (by kernel_rfl) (op_yes (reads := [(5, none)]) 6 49 0 false rfl rfl rfl (op_out 5 (.pointer (some A)) rfl (.inl rfl) rfl)) ?_
      refine LinL.step (s := (.val (.int .i64 (D1.l.length : Nat)))) [(50, some 0), (49, some 1)] rfl (by kernel_rfl) (op_yes (reads := [(50, some 0)]) 6 49 1 false rfl rfl rfl (op_calls 23 #[(.tmp 50)] #[24] (fun σ => #[.pointer (some A)]) rfl rfl (fun _ _ => rfl) fun σ w' hx hg => ⟨by have h50 : σ.tmps.getD 50 undef = .pointer (some A) := hg.1; simp only [List.map_toArray, List.map_cons, List.map_nil, Act.eval, h50], (Synced_any (hd.ext hx)).mono fun e w'' h => ⟨_, h.1.trans (by rw [Hs.out]), h.2 ▸ Ext.refl _, rfl⟩⟩)) ?_
      refine LinL.step (s := (.val (v8))) [(8, none), (49, some 2)] rfl (by kernel_rfl) (op_yes (reads := [(8, none)]) 6 49 2 false rfl rfl rfl (op_out 8 (v8) rfl (.inl rfl) rfl)) ?_
      refine LinL.step (s := (.val (.int .i64 (D1.l.length : Nat)))) [(52, some 0), (49, some 3)] rfl (by kernel_rfl) (op_yes (reads := [(52, some 0)]) 6 49 3 false rfl rfl rfl (op_runs rfl fun σ w' hx hg => ⟨_, runs_lenb (ρ := σ.eval) (w := w') (.tmp 52) rfl hg.1 (b8.ext hx), rfl⟩)) ?_
      refine LinL.step (s := (.val (.bool false))) [(51, some 2), (53, some 0), (49, some 4)] rfl (by kernel_rfl) (op_yes (reads := [(51, some 2), (53, some 0)]) 6 49 4 false rfl rfl rfl (op_runs rfl fun σ w' hx hg => ⟨(.bool false), by have h51 : σ.tmps.getD 51 undef = .int .i64 (D1.l.length : Nat) := hg.1; have h53 : σ.tmps.getD 53 undef = .int .i64 (D1.l.length : Nat) := hg.2.1; unfold Runs execOp; simp [Act.eval, h51, h53, go_sem], rfl⟩)) ?_
      refine LinL.step (s := (.val (.bool false))) [(49, some 5), (54, some 0)] rfl (by kernel_rfl) (op_runs rfl fun σ w' hx hg => ⟨_, runs_pick_f (ρ := σ.eval) (w := w') (.tmp 49) (.const (.bool true)) (.tmp 54) rfl hg.1 hg.2.1, rfl⟩) ?_
      intro wN hxN
      simp only [Fin', List.reverse_cons, List.reverse_nil, List.nil_append, List.cons_append, List.drop_zero, List.drop_succ_cons, List.take_succ_cons, List.take_zero]
      intro q44 hq44
      simp only [Act.put, List.setIfInBounds_toArray, List.set_cons_zero, List.set_cons_succ]
      replace hd := hd.ext hxN
      replace k8 := k8.ext hxN
      replace hO := hO.extend hxN
      by_cases hfit : ([101, 110, 100] : List Nat).length ≤ D1.room
      · have f0 := hide_ (show D1.err [101, 110, 100] = 0 from if_pos hfit)
        have f1 := hide_ (show ((D1.app [101, 110, 100]).sync).crash y = (D1.app [101, 110, 100]).sync from DSt.crash_same _ rfl y)
        have f2 := hide_ (show ((D1.app [101, 110, 100]).sync).l = D1.l ++ [101, 110, 100] from by unfold DSt.app; rw [if_pos hfit]; rfl)
        have f4 : D1.l.length + ([101, 110, 100] : List Nat).length ≤ 140737488355328 := by simp; omega
        have f5 := hide_ (show strN [101, 110, 100] = ⟨#[101, 110, 100]⟩ from by decide)
        clear hfit
        go_wp2_with (first
          | ((try refine w_yes _ _ _ rfl rfl rfl ?_); refine w_blit [101, 110, 100] rfl rfl rfl rfl (by omega) ?_; intro gl wl hgl hxl hL; (try simp only [Act.put, List.setIfInBounds_toArray, List.set_cons_zero, List.set_cons_succ]))
          | ((try refine w_yes _ _ _ rfl rfl rfl ?_); refine w_bconv _ rfl rfl rfl hgl hxl hL (by simp) ?_; intro vb wb hxb hb hbk; replace hd := hd.ext hxb; replace hO := hO.extend hxb; replace k8 := k8.ext hxb; clear hgl hxl hL; (try simp only [Act.put, List.setIfInBounds_toArray, List.set_cons_zero, List.set_cons_succ]))
          | (go_at_call 11; refine (Append_any hd hb).mono ?_; rintro e wz ⟨F', rfl, hup, hd'⟩; replace hO := hO.upd hup; replace hd := hd'; replace k8 := k8.upd hup; clear hd' hup; rw [f0.out]; (try simp only [Act.put, List.setIfInBounds_toArray, List.set_cons_zero, List.set_cons_succ]))
          | (go_at_call 15; refine (Sync_any hd).mono ?_; rintro e wz ⟨rfl, hm, hd'⟩; replace hO := hO.upd hm.upd; replace hd := hd'; replace k8 := k8.upd hm.upd; clear hd' hm; (try simp only [Act.put, List.setIfInBounds_toArray, List.set_cons_zero, List.set_cons_succ]))
          | (refine w_aidx _ (i := 1) rfl rfl rfl (by omega) ?_; (try simp only [Act.put, List.setIfInBounds_toArray, List.set_cons_zero, List.set_cons_succ]))
          | (refine w_fload _ rfl rfl rfl (f3.ext hO.ext) rfl (agg_of (by kernel_rfl)) ?_; (try simp only [Act.put, List.setIfInBounds_toArray, List.set_cons_zero, List.set_cons_succ]))
          | (go_at_call 17; ((with_reducible refine (Crash_any _ hd).mono ?_); rintro e wc ⟨rfl, hmd, hd'⟩; replace hO := hO.upd hmd.upd; replace hd := hd'; rw [f1.out] at hd; replace k8 := k8.upd hmd.upd; clear hd' hmd); (try simp only [Act.put, List.setIfInBounds_toArray, List.set_cons_zero, List.set_cons_succ]))
          | fail)
        refine wp_region_phx (by kernel_rfl) ?_; intro wd hxd; replace hd := hd.ext hxd; replace k8 := k8.ext hxd; replace hO := hO.extend hxd; have b8 : Byt wd v8 D1.l := k8.sl
        refine Ph.rest 0 8 (by kernel_rfl) ?_
        refine LinL.step (s := (.val (.pointer (some A)))) [(5, none)] rfl (by kernel_rfl) (op_out 5 (.pointer (some A)) rfl (.inl rfl) rfl) ?_
        refine LinL.step (s := (.sl (u8s (D1.l ++ [101, 110, 100])))) [(70, some 0)] rfl (by kernel_rfl) (op_calls 22 #[(.tmp 70)] #[24] (fun σ => #[.pointer (some A)]) rfl rfl (fun _ _ => rfl) fun σ w' hx hg => ⟨by have h70 : σ.tmps.getD 70 undef = .pointer (some A) := hg.1; simp only [List.map_toArray, List.map_cons, List.map_nil, Act.eval, h70], (Bytes_any (hd.ext hx)).mono fun e w'' ⟨v, he, hx', hr⟩ => ⟨v, he, hx', (f2.out ▸ hr.sl : Sl _ v (u8s (D1.l ++ [101, 110, 100])))⟩⟩) ?_
        refine LinL.step (s := (.val (.string (strN (D1.l ++ [101, 110, 100]))))) [(71, some 0)] rfl (by kernel_rfl) (op_runs rfl fun σ w' hx hg => ⟨_, runs_str (ρ := σ.eval) (w := w') (.tmp 71) rfl rfl hg.1, rfl⟩) ?_
        refine LinL.step (s := (.val (v8))) [(8, none)] rfl (by kernel_rfl) (op_out 8 (v8) rfl (.inl rfl) rfl) ?_
        refine LinL.step (s := (.val (.string (strN D1.l)))) [(73, some 0)] rfl (by kernel_rfl) (op_runs rfl fun σ w' hx hg => ⟨_, runs_str (ρ := σ.eval) (w := w') (.tmp 73) rfl hg.1 (b8.ext hx), rfl⟩) ?_
        refine LinL.step (s := (.val (.string (strN (D1.l ++ [101, 110, 100]))))) [(74, some 0)] rfl (by kernel_rfl) (op_runs rfl fun σ w' hx hg => ⟨_, runs_cat (ρ := σ.eval) (w := w') (.tmp 74) (.const (.string { data := #[101, 110, 100] })) rfl hg.1 (by rw [← f5.out]; rfl) f4, rfl⟩) ?_
        refine LinL.step (s := (.val (.bool true))) [(72, some 3), (75, some 0)] rfl (by kernel_rfl) (op_runs rfl fun σ w' hx hg => ⟨(.bool true), by have h72 : σ.tmps.getD 72 undef = .string (strN (D1.l ++ [101, 110, 100])) := hg.1; have h75 : σ.tmps.getD 75 undef = .string (strN (D1.l ++ [101, 110, 100])) := hg.2.1; unfold Runs execOp; simp [Act.eval, h72, h75, go_sem], rfl⟩) ?_
        refine LinL.step (s := (.val (.bool true))) [(76, some 0)] rfl (by kernel_rfl) (op_copy 76 0 (.val (.bool true)) rfl (.inr rfl) rfl) ?_
        intro wN hxN
        simp only [Fin', List.reverse_cons, List.reverse_nil, List.nil_append, List.cons_append, List.drop_zero, List.drop_succ_cons, List.take_succ_cons, List.take_zero]
        intro q71 hq71
        simp only [Act.put, List.setIfInBounds_toArray, List.set_cons_zero, List.set_cons_succ]
        go_wp2
        go_ret
        exact Keep.intro ⟨rfl, hx0.trans (hO.ext.trans hxN)⟩
      · have f0 := hide_ (show D1.err [101, 110, 100] = 41 from if_neg hfit)
        have f1 := hide_ (show D1.app [101, 110, 100] = D1 from if_neg hfit)
        have t9 : decide ((D1.room : Int) < 3) = true := by simp at hfit; simp; omega
        clear hfit
        go_wp2_with (first
          | ((try refine w_yes _ _ _ rfl rfl rfl ?_); refine w_blit [101, 110, 100] rfl rfl rfl rfl (by omega) ?_; intro gl wl hgl hxl hL; (try simp only [Act.put, List.setIfInBounds_toArray, List.set_cons_zero, List.set_cons_succ]))
          | ((try refine w_yes _ _ _ rfl rfl rfl ?_); refine w_bconv _ rfl rfl rfl hgl hxl hL (by simp) ?_; intro vb wb hxb hb hbk; replace hd := hd.ext hxb; replace hO := hO.extend hxb; clear hgl hxl hL; (try simp only [Act.put, List.setIfInBounds_toArray, List.set_cons_zero, List.set_cons_succ]))
          | (go_at_call 11; refine (Append_any hd hb).mono ?_; rintro e wz ⟨F', rfl, hup, hd'⟩; replace hO := hO.upd hup; replace hd := hd'; clear hd' hup; rw [f0.out]; rw [f1.out] at hd; (try simp only [Act.put, List.setIfInBounds_toArray, List.set_cons_zero, List.set_cons_succ]))
          | (go_at_call 12; refine (Room_any hd).mono ?_; rintro e wq ⟨rfl, hxq⟩; replace hO := hO.extend hxq; replace hd := hd.ext hxq; (try simp only [Act.put, List.setIfInBounds_toArray, List.set_cons_zero, List.set_cons_succ]))
          | fail)
        go_ret
        exact Keep.intro ⟨rfl, hx0.trans hO.ext⟩

set_option maxRecDepth 100000 in
theorem diskAgain_lifted (os : Os) (started : os.Started) (H : Type) (enc : TypeId × Value → H) :
    ReturnsInHanded {} Try.checked os 8 .any (Rows.diskAgainSpec.pre6 enc Try.prog Try.f8 Rows.diskAgainRow.domain false) (Rows.diskAgainSpec.post enc Try.prog Try.f8 false true false false) := by
  refine law_lifted (s := Rows.diskAgainSpec) (conds := Rows.diskAgainRow.domain) Try.func8 (by kernel_rfl) rfl (fun H ds h => by
      rw [show Try.f8.params.size = 2 from rfl] at h
      match ds, h with
      | [d0, d1], _ => rfl) rfl rfl (by decide +kernel) os started H enc
    (ChangeSpec.witness6 (enc := enc) (C := Try.checked) false ⟨#[], #[.slice none 0 0, .agg #[.int .i64 0, .int .i64 0]], []⟩ 8 (by kernel_rfl) (by kernel_rfl) (by kernel_rfl) (by kernel_rfl)) ?_
  intro W base args ds p hval hA hsz _
  have hp : Try.f8.params.toList = [43, 46] := rfl
  rw [hp] at hA hsz
  obtain ⟨v0, v1, d0, d1, p0, p1, rfl, rfl, rfl, h0, h1⟩ := trodAll_two hA
  obtain ⟨l0, a0⟩ := arg_bb hsz (j := 0) rfl rfl (hval 0 43 v0 rfl rfl) h0
  obtain ⟨x1, y1, rfl, b1, c1⟩ := open_int_array2 Try.underlying46 Try.underlying3 (by kernel_rfl) (by kernel_rfl) (hval 1 46 v1 rfl rfl) h1
  simp [Lit.wf, IntKind.min, IntKind.max, IntKind.signed, IntKind.bits] at b1 c1
  exact diskAgain_law v0 l0 x1 y1 W a0

theorem diskAgain_holds : Rows.DiskAgainSaid :=
  OpenClaim.holds_of_wide 8 Try.f8 rfl rfl rfl rfl rfl rfl rfl ⟨rfl, rfl, rfl, rfl, rfl⟩ rfl rfl rfl rfl rfl (by kernel_rfl) Try.func8 (by kernel_rfl)
    (of_decide_eq_true (by kernel_rfl)) (by unfold Func.isWrapper; first | (rw [if_pos (by decide +kernel)]; kernel_rfl) | (rw [if_neg (by decide +kernel)]; exact ⟨rfl, rfl⟩))
    (fun os started H enc _ => diskAgain_lifted os started H enc)
#print axioms diskAgain_holds

end Go.Proofs.Ytkcmhbinphgimaa
