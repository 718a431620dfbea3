/- The statement DiskKeeps: behind any crash what was synced is there, and of what was appended behind some bytes from the first one on. No condition. -/
import Derived.Test.YtkcmhbinphgimaaDNames
import Derived.Test.YtkcmhbinphgimaaDActs
namespace Go.Proofs.Ytkcmhbinphgimaa
open Go.RowKit Go.ChangeShapes Go.WideShapes Go.ChangeAt

set_option maxRecDepth 100000 in
set_option maxHeartbeats 1600000 in
theorem diskKeeps_law (v : Value) (l : List ActD) (n : Int) (W : World) (hl : Recs 3 ActR W v l) :
    Calls Try.prog 5 #[v, .int .i64 n] W fun e w' => e = .returned (.bool true) ∧ Ext W w' := by
  refine calls_keep ?_
  by_cases hbig : 200 < l.length
  · have t0 : decide ((200 : Int) < (l.length : Int)) = true := by simp; omega
    clear hbig
    go_enter Try.func5, Try.ntmps5
    go_wp2_with (first
      | (go_at_call 9; refine (alive_any _).mono ?_; rintro e w1 ⟨rfl, hX⟩)
      | (go_at_call 10; ((with_reducible refine (New_any _ _).mono ?_); rintro e w2 ⟨p, rfl, hx1, hd⟩; have hO := Out.of_new hX hx1 hd; obtain ⟨A, rfl⟩ := hd.ne_nil))
      | ((try refine w_yes _ _ _ rfl rfl rfl ?_); refine w_rlen Try.elA _ rfl rfl rfl (hl.ext ActR.stays hO.ext) ?_; (try simp only [Act.put, List.setIfInBounds_toArray, List.set_cons_zero, List.set_cons_succ])))
    go_ret
    exact Keep.intro ⟨rfl, hO.ext⟩
  have t0 : decide ((200 : Int) < (l.length : Int)) = false := by simp; omega
  have h200 : l.length ≤ 200 := by omega
  clear hbig
  go_enter Try.func5, Try.ntmps5
  go_wp2_with (first
    | (go_at_call 9; refine (alive_any _).mono ?_; rintro e w1 ⟨rfl, hX⟩)
    | (go_at_call 10; ((with_reducible refine (New_any _ _).mono ?_); rintro e w2 ⟨p, rfl, hx1, hd⟩; have hO := Out.of_new hX hx1 hd; obtain ⟨A, rfl⟩ := hd.ne_nil))
    | ((try refine w_yes _ _ _ rfl rfl rfl ?_); refine w_rlen Try.elA _ rfl rfl rfl (hl.ext ActR.stays hO.ext) ?_; (try simp only [Act.put, List.setIfInBounds_toArray, List.set_cons_zero, List.set_cons_succ])))
  go_loopw [25] (fun i wr => ∃ (k : Nat) (F : Nat → Prop) (D : DSt), i = .int .i64 k ∧ k ≤ l.length ∧ Dsk F wr (.pointer (some A)) D ∧ Out W F wr) (fun i _ => l.length - (intOf i).toNat)
  case atStart => exact ⟨0, _, _, rfl, Nat.zero_le _, hd, hO⟩
  case round =>
    clear hd hO
    obtain ⟨k, F, D, rfl, hk, hd, hO⟩ := hrel
    by_cases hlt : k < l.length
    · have hbd := hd.bd
      have hW := hO.ext.size
      have t1 : decide (k < l.length) = true := by simpa using hlt
      cases hc : (l[k].k == 1)
      · go_wp2_with (first
          | (refine w_ridx0 Try.elA _ _ k ActR.stays rfl rfl rfl rfl hl hO.ext hlt ?_; rintro p row hrow hrl ⟨⟨u, rfl, hu⟩, hok⟩; have cu : u.oneCell' = true := hu.one'; (try simp only [Act.put, List.setIfInBounds_toArray, List.set_cons_zero, List.set_cons_succ]))
          | (refine w_pload Try.stA _ rfl rfl rfl (hrow.ext hO.ext) rfl ?_; (try simp only [Act.put, List.setIfInBounds_toArray, List.set_cons_zero, List.set_cons_succ]))
          | (refine w_alloc Try.stA rfl rfl ?_; intro g7 w7 hg7 hx7 f7; replace hd := hd.ext hx7; replace hO := hO.extend hx7; (try simp only [Act.put, List.setIfInBounds_toArray, List.set_cons_zero, List.set_cons_succ]))
          | (refine w_astore Try.stA (us := [.int .i64 l[k].k, .int .i64 l[k].n, u]) _ _ rfl rfl rfl rfl rfl f7 rfl rfl (List.forall_mem_cons.2 ⟨rfl, List.forall_mem_cons.2 ⟨rfl, List.forall_mem_cons.2 ⟨cu, by simp⟩⟩⟩) ?_; intro w8 hm8 f7'; replace f7 := f7'; clear f7'; replace hd := hd.mod hm8 (fun j hj e => by have := hbd j hj; omega); replace hO := hO.other hm8 (fun j e => by omega); have hg8 := f7.lt; clear hm8; (try simp only [Act.put, List.setIfInBounds_toArray, List.set_cons_zero, List.set_cons_succ]))
          | (refine w_field Try.stA _ _ _ rfl rfl rfl (by omega) ?_; (try simp only [Act.put, List.setIfInBounds_toArray, List.set_cons_zero, List.set_cons_succ]))
          | (refine w_fload _ rfl rfl rfl f7 rfl (agg_of (by kernel_rfl)) ?_; (try simp only [Act.put, List.setIfInBounds_toArray, List.set_cons_zero, List.set_cons_succ]))
          | (refine w_bempty rfl rfl ?_; intro v1 wn B hB1 hBl hxn o1; replace hd := hd.ext hxn; replace hO := hO.extend hxn; replace f7 := f7.ext hxn; clear hxn; (try simp only [Act.put, List.setIfInBounds_toArray, List.set_cons_zero, List.set_cons_succ]))
          | (refine appb _ _ rfl rfl rfl rfl o1 (hu.ext hO.ext) (by have := hok.l; simp; omega) hBl ?_; intro v2 wa o2 hba hga; rw [List.nil_append] at o2; replace hd := hd.mod (Below.toMod hba) (fun j hj (e : B ≤ j) => by have := hbd j hj; omega); replace hO := hO.other (Below.toMod hba) (fun j (e : B ≤ j) => by omega); clear o1 hba hga f7; (try simp only [Act.put, List.setIfInBounds_toArray, List.set_cons_zero, List.set_cons_succ]))
          | (go_at_call 11; refine (Append_any hd o2.byt).mono ?_; rintro e wz ⟨F', rfl, hup, hd'⟩; replace hO := hO.upd hup; replace hd := hd'; clear hd' hup o2; (try simp only [Act.put, List.setIfInBounds_toArray, List.set_cons_zero, List.set_cons_succ]))
          | fail)
        go_roundw
        case rel => exact ⟨k + 1, _, _, by go_num, by omega, hd, hO⟩
        case measure => simp [intOf]; omega
      · go_wp2_with (first
          | (refine w_ridx0 Try.elA _ _ k ActR.stays rfl rfl rfl rfl hl hO.ext hlt ?_; rintro p row hrow hrl ⟨⟨u, rfl, hu⟩, hok⟩; have cu : u.oneCell' = true := hu.one'; (try simp only [Act.put, List.setIfInBounds_toArray, List.set_cons_zero, List.set_cons_succ]))
          | (refine w_pload Try.stA _ rfl rfl rfl (hrow.ext hO.ext) rfl ?_; (try simp only [Act.put, List.setIfInBounds_toArray, List.set_cons_zero, List.set_cons_succ]))
          | (refine w_alloc Try.stA rfl rfl ?_; intro g7 w7 hg7 hx7 f7; replace hd := hd.ext hx7; replace hO := hO.extend hx7; (try simp only [Act.put, List.setIfInBounds_toArray, List.set_cons_zero, List.set_cons_succ]))
          | (refine w_astore Try.stA (us := [.int .i64 l[k].k, .int .i64 l[k].n, u]) _ _ rfl rfl rfl rfl rfl f7 rfl rfl (List.forall_mem_cons.2 ⟨rfl, List.forall_mem_cons.2 ⟨rfl, List.forall_mem_cons.2 ⟨cu, by simp⟩⟩⟩) ?_; intro w8 hm8 f7'; replace f7 := f7'; clear f7'; replace hd := hd.mod hm8 (fun j hj e => by have := hbd j hj; omega); replace hO := hO.other hm8 (fun j e => by omega); have hg8 := f7.lt; clear hm8; (try simp only [Act.put, List.setIfInBounds_toArray, List.set_cons_zero, List.set_cons_succ]))
          | (refine w_field Try.stA _ _ _ rfl rfl rfl (by omega) ?_; (try simp only [Act.put, List.setIfInBounds_toArray, List.set_cons_zero, List.set_cons_succ]))
          | (refine w_fload _ rfl rfl rfl f7 rfl (agg_of (by kernel_rfl)) ?_; (try simp only [Act.put, List.setIfInBounds_toArray, List.set_cons_zero, List.set_cons_succ]))
          | (go_at_call 15; refine (Sync_any hd).mono ?_; rintro e wz ⟨rfl, hm, hd'⟩; replace hO := hO.upd hm.upd; replace hd := hd'; clear hd' hm; (try simp only [Act.put, List.setIfInBounds_toArray, List.set_cons_zero, List.set_cons_succ]))
          | fail)
        go_roundw
        case rel => exact ⟨k + 1, _, _, by go_num, by omega, hd, hO⟩
        case measure => simp [intOf]; omega
    · have t1 : decide (k < l.length) = false := by simpa using hlt
      have hok := hd.ok
      have hbl := bet_le n (D.l.length - D.s)
      obtain ⟨x, hx⟩ : ∃ x, x = D.s + bet n (D.l.length - D.s) := ⟨_, rfl⟩
      have h1 := hok.s
      have e1 := hide_ (show (D.crash n).l = D.l.take x from by rw [hx]; rfl)
      have e2 := hide_ (show (D.crash n).s = x from by rw [hx]; rfl)
      have hxl : x ≤ D.l.length := by omega
      have hsx : D.s ≤ x := by omega
      have hlen := hide_ (show (D.l.take x).length = x from by rw [List.length_take]; omega)
      have Hn := hide_ (show 0 < n ∨ x = D.s from by rw [hx]; unfold bet; omega)
      have t2 : decide (x < D.s) = false := by simp; omega
      have t3 : decide (D.l.length < x) = false := by simp; omega
      clear hok hbl hx h1
      have hbd := hd.bd
      go_wp2_with (first
        | (go_at_call 22; refine (Bytes_any hd).mono ?_; rintro e wb ⟨v8, rfl, hxb, h8⟩; replace hd := hd.ext hxb; replace hO := hO.extend hxb; have h8n : ∀ j, v8.ownBlock = some j → ¬ F j := (fun j hj hF => by have := (h8.inF j hj).1; have := hbd j hF; omega); have b8 : Byt wb v8 D.l := h8.sl; clear h8 hbd)
        | (go_at_call 22; refine (Bytes_any hd).mono ?_; rintro e wb ⟨v10, rfl, hxb, h10⟩; replace hd := hd.ext hxb; replace hO := hO.extend hxb; replace b8 := b8.ext hxb; rw [e1.out] at h10; have b10 : Byt wb v10 (D.l.take x) := h10.sl; clear h10)
        | (go_at_call 17; refine (Crash_any n hd).mono ?_; rintro e wc ⟨rfl, hm, hd'⟩; replace hO := hO.upd hm.upd; replace hd := hd'; replace b8 : Byt wc v8 D.l := Sl.mod b8 hm h8n; clear hd' hm h8n)
        | (go_at_call 23; refine (Synced_any hd).mono ?_; rintro e wy ⟨rfl, rfl⟩; rw [e2.out])
        | (go_at_call 23; refine (Synced_any hd).mono ?_; rintro e wy ⟨rfl, rfl⟩)
        | ((try refine w_yes _ _ _ rfl rfl rfl ?_); refine b_len _ rfl rfl (v := v10) rfl b10 ?_; rw [hlen.out])
        | ((try refine w_yes _ _ _ rfl rfl rfl ?_); refine b_len _ rfl rfl (v := v8) rfl b8 ?_))
      by_cases hn : 0 < n
      · have t4 : decide (0 < n) = true := by simpa using hn
        refine wp_region_phx (by kernel_rfl) ?_; intro wd hxd; replace b8 := b8.ext hxd; replace b10 := b10.ext hxd; replace hO := hO.extend hxd
        refine Ph.rest 0 19 (by kernel_rfl) ?_
        refine LinL.step (s := (.val (v10))) [(10, none)] rfl (by kernel_rfl) (op_out 10 (v10) rfl (.inl rfl) rfl) ?_
        refine LinL.step (s := (.val (.string (strN (D.l.take x))))) [(68, some 0)] rfl (by kernel_rfl) (op_runs rfl fun σ w' hx hg => ⟨_, runs_str (ρ := σ.eval) (w := w') (.tmp 68) rfl hg.1 (b10.ext hx), rfl⟩) ?_
        refine LinL.step (s := (.val (v8))) [(8, none)] rfl (by kernel_rfl) (op_out 8 (v8) rfl (.inl rfl) rfl) ?_
        refine LinL.step (s := (.val (v10))) [(10, none)] rfl (by kernel_rfl) (op_out 10 (v10) rfl (.inl rfl) rfl) ?_
        refine LinL.step (s := (.val (.int .i64 (x : Nat)))) [(71, some 0)] rfl (by kernel_rfl) (op_runs rfl fun σ w' hx hg => ⟨_, runs_lenbn (ρ := σ.eval) (w := w') (.tmp 71) rfl hg.1 (b10.ext hx) hlen.out, rfl⟩) ?_
        refine LinL.step (s := (.sl (u8s (D.l.take ((x : Nat)))))) [(70, some 2), (72, some 0)] rfl (by kernel_rfl) (op_runs rfl fun σ w' hx hg => rcut (ρ := σ.eval) (w := w') (.tmp 70) rfl hg.1 (b8.ext hx) 0 ((x : Nat)) (.inr ⟨rfl, rfl⟩) (.inl ⟨(.tmp 72), rfl, hg.2.1⟩) (by omega) (by omega) (by simp)) ?_
        refine LinL.step (s := (.val (.string (strN (D.l.take ((x : Nat))))))) [(73, some 0)] rfl (by kernel_rfl) (op_runs rfl fun σ w' hx hg => ⟨_, runs_str (ρ := σ.eval) (w := w') (.tmp 73) rfl rfl hg.1, rfl⟩) ?_
        refine LinL.step (s := (.val (.bool true))) [(69, some 5), (74, some 0)] rfl (by kernel_rfl) (op_runs rfl fun σ w' hx hg => ⟨(.bool true), by have h69 : σ.tmps.getD 69 undef = .string (strN (D.l.take x)) := hg.1; have h74 : σ.tmps.getD 74 undef = .string (strN (D.l.take ((x : Nat)))) := hg.2.1; unfold Runs execOp; simp [Act.eval, h69, h74, go_sem], rfl⟩) ?_
        refine LinL.step (s := (.val (.bool true))) [(75, some 0)] rfl (by kernel_rfl) (op_copy 75 0 (.val (.bool true)) rfl (.inl rfl) rfl) ?_
        refine LinL.step (s := (.val (.int .i64 n))) [(1, none), (76, some 0)] rfl (by kernel_rfl) (op_yes (reads := [(1, none)]) 8 76 0 true rfl rfl rfl (op_out 1 (.int .i64 n) rfl (.inl rfl) rfl)) ?_
        refine LinL.step (s := (.val (.bool true))) [(77, some 0), (76, some 1)] rfl (by kernel_rfl) (op_yes (reads := [(77, some 0)]) 8 76 1 true rfl rfl rfl (op_runs rfl fun σ w' hx hg => ⟨(.bool true), by have h77 : σ.tmps.getD 77 undef = .int .i64 n := hg.1; unfold Runs execOp; simp [Act.eval, h77, go_sem, t4], rfl⟩)) ?_
        refine LinL.step (s := (.val (.bool true))) [(78, some 0), (76, some 2)] rfl (by kernel_rfl) (op_yes (reads := [(78, some 0)]) 8 76 2 true rfl rfl rfl (op_copy 78 0 (.val (.bool true)) rfl (.inl rfl) rfl)) ?_
        refine LinL.step (s := .val undef) [(10, none), (79, some 0)] rfl (by kernel_rfl) (op_no (reads := [(10, none)]) 11 79 0 false rfl rfl rfl) ?_
        refine LinL.step (s := .val undef) [(80, some 0), (79, some 1)] rfl (by kernel_rfl) (op_no (reads := [(80, some 0)]) 11 79 1 false rfl rfl rfl) ?_
        refine LinL.step (s := .val undef) [(9, none), (79, some 2)] rfl (by kernel_rfl) (op_no (reads := [(9, none)]) 11 79 2 false rfl rfl rfl) ?_
        refine LinL.step (s := .val undef) [(81, some 1), (82, some 0), (79, some 3)] rfl (by kernel_rfl) (op_no (reads := [(81, some 1), (82, some 0)]) 11 79 3 false rfl rfl rfl) ?_
        refine LinL.step (s := (.val (.bool true))) [(79, some 4), (83, some 0), (76, some 7)] rfl (by kernel_rfl) (op_yes (reads := [(79, some 4), (83, some 0)]) 8 76 7 true rfl rfl rfl (op_runs rfl fun σ w' hx hg => ⟨_, runs_pick_t (ρ := σ.eval) (w := w') (.tmp 79) (.const (.bool true)) (.tmp 83) rfl hg.1 rfl, rfl⟩)) ?_
        refine LinL.step (s := (.val (.bool true))) [(76, some 8), (84, some 0)] rfl (by kernel_rfl) (op_runs rfl fun σ w' hx hg => ⟨_, runs_pick_t (ρ := σ.eval) (w := w') (.tmp 76) (.tmp 84) (.const (.bool false)) rfl hg.1 hg.2.1, rfl⟩) ?_
        refine LinL.step (s := (.val (.bool true))) [(85, some 0)] rfl (by kernel_rfl) (op_copy 85 0 (.val (.bool true)) rfl (.inr rfl) rfl) ?_
        intro wN hxN
        simp only [Fin', List.reverse_cons, List.reverse_nil, List.nil_append, List.cons_append, List.drop_zero, List.drop_succ_cons, List.take_succ_cons, List.take_zero]
        intro q73 hq73
        simp only [Act.put, List.setIfInBounds_toArray, List.set_cons_zero, List.set_cons_succ]
        go_wp2
        go_ret
        exact Keep.intro ⟨rfl, hO.ext.trans hxN⟩
      · have t4 : decide (0 < n) = false := by simpa using hn
        have hxs := hide_ (show x = D.s from Hn.out.resolve_left hn)
        refine wp_region_phx (by kernel_rfl) ?_; intro wd hxd; replace b8 := b8.ext hxd; replace b10 := b10.ext hxd; replace hO := hO.extend hxd
        refine Ph.rest 0 19 (by kernel_rfl) ?_
        refine LinL.step (s := (.val (v10))) [(10, none)] rfl (by kernel_rfl) (op_out 10 (v10) rfl (.inl rfl) rfl) ?_
        refine LinL.step (s := (.val (.string (strN (D.l.take x))))) [(68, some 0)] rfl (by kernel_rfl) (op_runs rfl fun σ w' hx hg => ⟨_, runs_str (ρ := σ.eval) (w := w') (.tmp 68) rfl hg.1 (b10.ext hx), rfl⟩) ?_
        refine LinL.step (s := (.val (v8))) [(8, none)] rfl (by kernel_rfl) (op_out 8 (v8) rfl (.inl rfl) rfl) ?_
        refine LinL.step (s := (.val (v10))) [(10, none)] rfl (by kernel_rfl) (op_out 10 (v10) rfl (.inl rfl) rfl) ?_
        refine LinL.step (s := (.val (.int .i64 (x : Nat)))) [(71, some 0)] rfl (by kernel_rfl) (op_runs rfl fun σ w' hx hg => ⟨_, runs_lenbn (ρ := σ.eval) (w := w') (.tmp 71) rfl hg.1 (b10.ext hx) hlen.out, rfl⟩) ?_
        refine LinL.step (s := (.sl (u8s (D.l.take ((x : Nat)))))) [(70, some 2), (72, some 0)] rfl (by kernel_rfl) (op_runs rfl fun σ w' hx hg => rcut (ρ := σ.eval) (w := w') (.tmp 70) rfl hg.1 (b8.ext hx) 0 ((x : Nat)) (.inr ⟨rfl, rfl⟩) (.inl ⟨(.tmp 72), rfl, hg.2.1⟩) (by omega) (by omega) (by simp)) ?_
        refine LinL.step (s := (.val (.string (strN (D.l.take ((x : Nat))))))) [(73, some 0)] rfl (by kernel_rfl) (op_runs rfl fun σ w' hx hg => ⟨_, runs_str (ρ := σ.eval) (w := w') (.tmp 73) rfl rfl hg.1, rfl⟩) ?_
        refine LinL.step (s := (.val (.bool true))) [(69, some 5), (74, some 0)] rfl (by kernel_rfl) (op_runs rfl fun σ w' hx hg => ⟨(.bool true), by have h69 : σ.tmps.getD 69 undef = .string (strN (D.l.take x)) := hg.1; have h74 : σ.tmps.getD 74 undef = .string (strN (D.l.take ((x : Nat)))) := hg.2.1; unfold Runs execOp; simp [Act.eval, h69, h74, go_sem], rfl⟩) ?_
        refine LinL.step (s := (.val (.bool true))) [(75, some 0)] rfl (by kernel_rfl) (op_copy 75 0 (.val (.bool true)) rfl (.inl rfl) rfl) ?_
        refine LinL.step (s := (.val (.int .i64 n))) [(1, none), (76, some 0)] rfl (by kernel_rfl) (op_yes (reads := [(1, none)]) 8 76 0 true rfl rfl rfl (op_out 1 (.int .i64 n) rfl (.inl rfl) rfl)) ?_
        refine LinL.step (s := (.val (.bool false))) [(77, some 0), (76, some 1)] rfl (by kernel_rfl) (op_yes (reads := [(77, some 0)]) 8 76 1 true rfl rfl rfl (op_runs rfl fun σ w' hx hg => ⟨(.bool false), by have h77 : σ.tmps.getD 77 undef = .int .i64 n := hg.1; unfold Runs execOp; simp [Act.eval, h77, go_sem, t4], rfl⟩)) ?_
        refine LinL.step (s := (.val (.bool false))) [(78, some 0), (76, some 2)] rfl (by kernel_rfl) (op_yes (reads := [(78, some 0)]) 8 76 2 true rfl rfl rfl (op_copy 78 0 (.val (.bool false)) rfl (.inl rfl) rfl)) ?_
        refine LinL.step (s := (.val (v10))) [(10, none), (79, some 0)] rfl (by kernel_rfl) (op_yes (reads := [(10, none)]) 11 79 0 false rfl rfl rfl (op_out 10 (v10) rfl (.inl rfl) rfl)) ?_
        refine LinL.step (s := (.val (.int .i64 (D.s : Nat)))) [(80, some 0), (79, some 1)] rfl (by kernel_rfl) (op_yes (reads := [(80, some 0)]) 11 79 1 false rfl rfl rfl (op_runs rfl fun σ w' hx hg => ⟨_, runs_lenbn (ρ := σ.eval) (w := w') (.tmp 80) rfl hg.1 (b10.ext hx) (hlen.out.trans hxs.out), rfl⟩)) ?_
        refine LinL.step (s := (.val (.int .i64 (D.s : Nat)))) [(9, none), (79, some 2)] rfl (by kernel_rfl) (op_yes (reads := [(9, none)]) 11 79 2 false rfl rfl rfl (op_out 9 (.int .i64 (D.s : Nat)) rfl (.inl rfl) rfl)) ?_
        refine LinL.step (s := (.val (.bool true))) [(81, some 1), (82, some 0), (79, some 3)] rfl (by kernel_rfl) (op_yes (reads := [(81, some 1), (82, some 0)]) 11 79 3 false rfl rfl rfl (op_runs rfl fun σ w' hx hg => ⟨(.bool true), by have h81 : σ.tmps.getD 81 undef = .int .i64 (D.s : Nat) := hg.1; have h82 : σ.tmps.getD 82 undef = .int .i64 (D.s : Nat) := hg.2.1; unfold Runs execOp; simp [Act.eval, h81, h82, go_sem], rfl⟩)) ?_
        refine LinL.step (s := (.val (.bool true))) [(79, some 4), (83, some 0), (76, some 7)] rfl (by kernel_rfl) (op_yes (reads := [(79, some 4), (83, some 0)]) 8 76 7 true rfl rfl rfl (op_runs rfl fun σ w' hx hg => ⟨_, runs_pick_f (ρ := σ.eval) (w := w') (.tmp 79) (.const (.bool true)) (.tmp 83) rfl hg.1 hg.2.1, rfl⟩)) ?_
        refine LinL.step (s := (.val (.bool true))) [(76, some 8), (84, some 0)] rfl (by kernel_rfl) (op_runs rfl fun σ w' hx hg => ⟨_, runs_pick_t (ρ := σ.eval) (w := w') (.tmp 76) (.tmp 84) (.const (.bool false)) rfl hg.1 hg.2.1, rfl⟩) ?_
        refine LinL.step (s := (.val (.bool true))) [(85, some 0)] rfl (by kernel_rfl) (op_copy 85 0 (.val (.bool true)) rfl (.inr rfl) rfl) ?_
        intro wN hxN
        simp only [Fin', List.reverse_cons, List.reverse_nil, List.nil_append, List.cons_append, List.drop_zero, List.drop_succ_cons, List.take_succ_cons, List.take_zero]
        intro q73 hq73
        simp only [Act.put, List.setIfInBounds_toArray, List.set_cons_zero, List.set_cons_succ]
        go_wp2
        go_ret
        exact Keep.intro ⟨rfl, hO.ext.trans hxN⟩

set_option maxRecDepth 100000 in
theorem diskKeeps_lifted (os : Os) (started : os.Started) (H : Type) (enc : TypeId × Value → H) :
    ReturnsInHanded {} Try.checked os 5 .any (Rows.diskKeepsSpec.pre6 enc Try.prog Try.f5 Rows.diskKeepsRow.domain false) (Rows.diskKeepsSpec.post enc Try.prog Try.f5 false true false false) := by
  refine law_lifted (s := Rows.diskKeepsSpec) (conds := Rows.diskKeepsRow.domain) Try.func5 (by kernel_rfl) rfl (fun H ds h => by
      rw [show Try.f5.params.size = 2 from rfl] at h
      match ds, h with
      | [d0, d1], _ => rfl) rfl rfl (by decide +kernel) os started H enc
    (ChangeSpec.witness6 (enc := enc) (C := Try.checked) false ⟨#[], #[.slice none 0 0, .int .i64 0], []⟩ 8 (by kernel_rfl) (by kernel_rfl) (by kernel_rfl) (by kernel_rfl)) ?_
  intro W base args ds p hval hA hsz _
  have hp : Try.f5.params.toList = [29, 3] := rfl
  rw [hp] at hA hsz
  obtain ⟨v0, v1, d0, d1, p0, p1, rfl, rfl, rfl, h0, h1⟩ := trodAll_two hA
  obtain ⟨l0, a0⟩ := arg_acts hsz (j := 0) rfl rfl (hval 0 29 v0 rfl rfl) h0
  obtain ⟨a1, rfl, b1, c1⟩ := arg_int (hval 1 3 v1 rfl rfl) h1
  exact diskKeeps_law v0 l0 a1 W a0

theorem diskKeeps_holds : Rows.DiskKeepsSaid :=
  OpenClaim.holds_of_wide 5 Try.f5 rfl rfl rfl rfl rfl rfl rfl ⟨rfl, rfl, rfl, rfl, rfl⟩ rfl rfl rfl rfl rfl (by kernel_rfl) Try.func5 (by kernel_rfl)
    (of_decide_eq_true (by kernel_rfl)) (by unfold Func.isWrapper; first | (rw [if_pos (by decide +kernel)]; kernel_rfl) | (rw [if_neg (by decide +kernel)]; exact ⟨rfl, rfl⟩))
    (fun os started H enc _ => diskKeeps_lifted os started H enc)
#print axioms diskKeeps_holds

end Go.Proofs.Ytkcmhbinphgimaa
