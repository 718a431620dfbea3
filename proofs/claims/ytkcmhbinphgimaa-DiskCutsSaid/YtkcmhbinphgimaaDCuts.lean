/- The statement DiskCuts: what is cut is gone, the first bytes are as they were, and what is appended behind stands right behind them. No condition. -/
import Derived.Test.YtkcmhbinphgimaaDNames
import Derived.Test.YtkcmhbinphgimaaRecsBB
import Derived.Test.YtkcmhbinphgimaaRegA
import Derived.Test.YtkcmhbinphgimaaArgB
namespace Go.Proofs.Ytkcmhbinphgimaa
open Go.RowKit Go.ChangeShapes Go.WideShapes Go.ChangeAt

set_option maxRecDepth 100000 in
set_option maxHeartbeats 3200000 in
theorem diskCuts_law (v : Value) (l : List (List Nat)) (n : Int) (b : Value) (m : List Nat) (W : World) (hl : Recs 1 BytOk W v l) (hm : Byt W b m) :
    Calls Try.prog 7 #[v, .int .i64 n, b] W fun e w' => e = .returned (.bool true) ∧ Ext W w' := by
  refine calls_keep ?_
  by_cases hbig : 50 < l.length
  · have t0 : decide ((50 : Int) < (l.length : Int)) = true := by simp; omega
    clear hbig
    go_enter Try.func7, Try.ntmps7
    go_wp2_with (first
      | (go_at_call 9; refine (alive_any _).mono ?_; rintro e w1 ⟨rfl, hX⟩; (try simp only [Act.put, List.setIfInBounds_toArray, List.set_cons_zero, List.set_cons_succ]))
      | ((try refine w_yes _ _ _ rfl rfl rfl ?_); refine w_rlen Try.elBBS _ rfl rfl rfl (hl.ext BytOk.stays hX) ?_; (try simp only [Act.put, List.setIfInBounds_toArray, List.set_cons_zero, List.set_cons_succ]))
      | ((try refine w_yes _ _ _ rfl rfl rfl ?_); refine b_len _ rfl rfl rfl (hm.ext hX) ?_; (try simp only [Act.put, List.setIfInBounds_toArray, List.set_cons_zero, List.set_cons_succ]))
      | fail)
    go_ret
    exact Keep.intro ⟨rfl, hX⟩
  have t0 : decide ((50 : Int) < (l.length : Int)) = false := by simp; omega
  by_cases hbig2 : 500 < m.length
  · have t1 : decide ((500 : Int) < (m.length : Int)) = true := by simp; omega
    clear hbig hbig2
    go_enter Try.func7, Try.ntmps7
    go_wp2_with (first
      | (go_at_call 9; refine (alive_any _).mono ?_; rintro e w1 ⟨rfl, hX⟩; (try simp only [Act.put, List.setIfInBounds_toArray, List.set_cons_zero, List.set_cons_succ]))
      | ((try refine w_yes _ _ _ rfl rfl rfl ?_); refine w_rlen Try.elBBS _ rfl rfl rfl (hl.ext BytOk.stays hX) ?_; (try simp only [Act.put, List.setIfInBounds_toArray, List.set_cons_zero, List.set_cons_succ]))
      | ((try refine w_yes _ _ _ rfl rfl rfl ?_); refine b_len _ rfl rfl rfl (hm.ext hX) ?_; (try simp only [Act.put, List.setIfInBounds_toArray, List.set_cons_zero, List.set_cons_succ]))
      | fail)
    go_ret
    exact Keep.intro ⟨rfl, hX⟩
  have t1 : decide ((500 : Int) < (m.length : Int)) = false := by simp; omega
  have h50 : l.length ≤ 50 := by omega
  have h500 : m.length ≤ 500 := by omega
  clear hbig hbig2
  go_enter Try.func7, Try.ntmps7
  go_wp2_with (first
    | (go_at_call 9; refine (alive_any _).mono ?_; rintro e w1 ⟨rfl, hX⟩; (try simp only [Act.put, List.setIfInBounds_toArray, List.set_cons_zero, List.set_cons_succ]))
    | ((try refine w_yes _ _ _ rfl rfl rfl ?_); refine w_rlen Try.elBBS _ rfl rfl rfl (hl.ext BytOk.stays hX) ?_; (try simp only [Act.put, List.setIfInBounds_toArray, List.set_cons_zero, List.set_cons_succ]))
    | ((try refine w_yes _ _ _ rfl rfl rfl ?_); refine b_len _ rfl rfl rfl (hm.ext hX) ?_; (try simp only [Act.put, List.setIfInBounds_toArray, List.set_cons_zero, List.set_cons_succ]))
    | (go_at_call 10; ((with_reducible refine (New_any _ _).mono ?_); rintro e w2 ⟨p, rfl, hx1, hd⟩; have hO := Out.of_new hX hx1 hd; obtain ⟨A, rfl⟩ := hd.ne_nil; clear hX); (try simp only [Act.put, List.setIfInBounds_toArray, List.set_cons_zero, List.set_cons_succ]))
    | ((try refine w_yes _ _ _ rfl rfl rfl ?_); refine w_rlen Try.elBBS _ rfl rfl rfl (hl.ext BytOk.stays hO.ext) ?_; (try simp only [Act.put, List.setIfInBounds_toArray, List.set_cons_zero, List.set_cons_succ]))
    | fail)
  go_loopw [26] (fun i wr => ∃ (k : Nat) (F : Nat → Prop) (D : DSt), i = .int .i64 k ∧ k ≤ l.length ∧ Dsk F wr (.pointer (some A)) D ∧ Out W F wr ∧ Hid (D.lim = 60000 ∧ D.l.length ≤ 60000)) (fun i _ => l.length - (intOf i).toNat)
  case atStart => exact ⟨0, _, _, rfl, Nat.zero_le _, hd, hO, hide_ ⟨by decide, by decide⟩⟩
  case round =>
    clear hd hO
    obtain ⟨k, F, D, rfl, hk, hd, hO, hD⟩ := hrel
    by_cases hlt : k < l.length
    · have hbd := hd.bd
      have hW := hO.ext.size
      have t2 : decide (k < l.length) = true := by simpa using hlt
      have hD' := hide_ (show (D.app l[k]).lim = 60000 ∧ (D.app l[k]).l.length ≤ 60000 from by
        have h1 := hD.out.1; have h2 := hD.out.2
        unfold DSt.app DSt.room
        split
        · exact ⟨h1, by simp; omega⟩
        · exact ⟨h1, h2⟩)
      cases hp : ((k : Int) % 2 == 0)
      all_goals
        go_wp2_with (first
          | (refine w_ridx0 Try.elBBS _ _ k BytOk.stays rfl rfl rfl rfl hl hO.ext hlt ?_; rintro p row hrow hrl ⟨⟨u, rfl, hu⟩, hokb⟩; (try simp only [Act.put, List.setIfInBounds_toArray, List.set_cons_zero, List.set_cons_succ]))
          | (refine w_cload _ rfl rfl rfl (hrow.ext hO.ext) (agg_of (by kernel_rfl)) ?_; (try simp only [Act.put, List.setIfInBounds_toArray, List.set_cons_zero, List.set_cons_succ]))
          | (refine w_bempty rfl rfl ?_; intro v1 wn B hB1 hBl hxn o1; replace hd := hd.ext hxn; replace hO := hO.extend hxn; have hB2 : wr.heap.size ≤ B := hB1; clear hxn hB1; (try simp only [Act.put, List.setIfInBounds_toArray, List.set_cons_zero, List.set_cons_succ]))
          | (refine appb _ _ rfl rfl rfl rfl o1 (hu.ext hO.ext) (by have := hokb.2; simp; omega) hBl ?_; intro v2 wa o2 hba hga; rw [List.nil_append] at o2; replace hd := hd.mod (Below.toMod hba) (fun j hj (e : B ≤ j) => by have := hbd j hj; omega); replace hO := hO.other (Below.toMod hba) (fun j (e : B ≤ j) => by omega); clear o1 hba hga; (try simp only [Act.put, List.setIfInBounds_toArray, List.set_cons_zero, List.set_cons_succ]))
          | (go_at_call 11; refine (Append_any hd o2.byt).mono ?_; rintro e wz ⟨F', rfl, hup, hd'⟩; replace hO := hO.upd hup; replace hd := hd'; clear hd' hup o2; (try simp only [Act.put, List.setIfInBounds_toArray, List.set_cons_zero, List.set_cons_succ]))
          | (go_at_call 15; refine (Sync_any hd).mono ?_; rintro e wz ⟨rfl, hm, hd'⟩; replace hO := hO.upd hm.upd; replace hd := hd'; clear hd' hm; (try simp only [Act.put, List.setIfInBounds_toArray, List.set_cons_zero, List.set_cons_succ]))
          | fail)
        go_roundw
        case rel => exact ⟨k + 1, _, _, by go_num, by omega, hd, hO, hD'⟩
        case measure => simp [intOf]; omega
    · have t2 : decide (k < l.length) = false := by simpa using hlt
      obtain ⟨o1, o2, o3⟩ := hd.ok
      obtain ⟨q1, q2⟩ := hD.out
      obtain ⟨x, hx⟩ : ∃ x, x = bet n D.l.length := ⟨_, rfl⟩
      have hxl : x ≤ D.l.length := by rw [hx]; exact bet_le _ _
      have hmm := hide_ (show ((x : Nat) : Int) = max 0 (min n (D.l.length : Int)) from by rw [hx, bet_int]; omega)
      have e1 := hide_ (show (D.cut n).l = D.l.take x from by rw [hx]; rfl)
      have e2 := hide_ (show (D.cut n).s = min D.s x from by rw [hx]; rfl)
      have e3 := hide_ (show (D.cut n).room = 60000 - x from by unfold DSt.room DSt.cut; rw [← hx, q1]; simp; omega)
      have hbd := hd.bd
      clear hx
      go_wp2_with (first
        | (go_at_call 22; refine (Bytes_any hd).mono ?_; rintro e wb ⟨v8, rfl, hxb, h8⟩; replace hd := hd.ext hxb; replace hO := hO.extend hxb; have h8n : ∀ j, v8.ownBlock = some j → ¬ F j := (fun j hj hF => by have := (h8.inF j hj).1; have := hbd j hF; omega); have b8 : Byt wb v8 D.l := h8.sl; have h8l : ∀ j, v8.ownBlock = some j → j < wb.heap.size := (fun j hj => (h8.inF j hj).2); clear h8 hbd; (try simp only [Act.put, List.setIfInBounds_toArray, List.set_cons_zero, List.set_cons_succ]))
        | (go_at_call 23; refine (Synced_any hd).mono ?_; rintro e wy ⟨rfl, rfl⟩; (try simp only [Act.put, List.setIfInBounds_toArray, List.set_cons_zero, List.set_cons_succ]))
        | (go_at_call 20; refine (Cut_any n hd).mono ?_; rintro e wc ⟨rfl, hmd, hd'⟩; replace hO := hO.upd hmd.upd; replace hd := hd'; replace b8 : Byt wc v8 D.l := Sl.mod b8 hmd h8n; clear hd' hmd; (try simp only [Act.put, List.setIfInBounds_toArray, List.set_cons_zero, List.set_cons_succ]))
        | (refine b_len _ rfl rfl (v := v8) rfl b8 ?_; (try simp only [Act.put, List.setIfInBounds_toArray, List.set_cons_zero, List.set_cons_succ]))
        | (refine w_min _ _ (min n (D.l.length : Int)) rfl rfl rfl rfl rfl ?_; (try simp only [Act.put, List.setIfInBounds_toArray, List.set_cons_zero, List.set_cons_succ]))
        | (refine w_max _ _ (x : Nat) hmm.out rfl rfl rfl rfl ?_; (try simp only [Act.put, List.setIfInBounds_toArray, List.set_cons_zero, List.set_cons_succ]))
        | fail)
      refine wp_region_phx (by kernel_rfl) ?_; intro wd hxd; replace hd := hd.ext hxd; replace b8 := b8.ext hxd; replace hO := hO.extend hxd
      refine Ph.rest 0 23 (by kernel_rfl) ?_
      refine LinL.step (s := (.val (.pointer (some A)))) [(7, none)] rfl (by kernel_rfl) (op_out 7 (.pointer (some A)) rfl (.inl rfl) rfl) ?_
      refine LinL.step (s := (.sl (u8s (D.l.take x)))) [(54, some 0)] rfl (by kernel_rfl) (op_calls 22 #[(.tmp 54)] #[24] (fun σ => #[.pointer (some A)]) rfl rfl (fun _ _ => rfl) fun σ w' hx hg => ⟨by have h54 : σ.tmps.getD 54 undef = .pointer (some A) := hg.1; simp only [List.map_toArray, List.map_cons, List.map_nil, Act.eval, h54], (Bytes_any (hd.ext hx)).mono fun e w'' ⟨v, he, hx', hr⟩ => ⟨v, he, hx', (e1.out ▸ hr.sl : Sl _ v (u8s (D.l.take x)))⟩⟩) ?_
      refine LinL.step (s := (.val (.string (strN (D.l.take x))))) [(55, some 0)] rfl (by kernel_rfl) (op_runs rfl fun σ w' hx hg => ⟨_, runs_str (ρ := σ.eval) (w := w') (.tmp 55) rfl rfl hg.1, rfl⟩) ?_
      refine LinL.step (s := (.val (v8))) [(10, none)] rfl (by kernel_rfl) (op_out 10 (v8) rfl (.inl rfl) rfl) ?_
      refine LinL.step (s := (.val (.int .i64 (x : Nat)))) [(12, none)] rfl (by kernel_rfl) (op_out 12 (.int .i64 (x : Nat)) rfl (.inl rfl) rfl) ?_
      refine LinL.step (s := (.sl (u8s (D.l.take ((x : Nat)))))) [(57, some 1), (58, some 0)] rfl (by kernel_rfl) (op_runs rfl fun σ w' hx hg => rcut (ρ := σ.eval) (w := w') (.tmp 57) rfl hg.1 (b8.ext hx) 0 ((x : Nat)) (.inr ⟨rfl, rfl⟩) (.inl ⟨(.tmp 58), rfl, hg.2.1⟩) (by omega) (by omega) (by simp)) ?_
      refine LinL.step (s := (.val (.string (strN (D.l.take ((x : Nat))))))) [(59, some 0)] rfl (by kernel_rfl) (op_runs rfl fun σ w' hx hg => ⟨_, runs_str (ρ := σ.eval) (w := w') (.tmp 59) rfl rfl hg.1, rfl⟩) ?_
      refine LinL.step (s := (.val (.bool false))) [(56, some 4), (60, some 0)] rfl (by kernel_rfl) (op_runs rfl fun σ w' hx hg => ⟨(.bool false), by have h56 : σ.tmps.getD 56 undef = .string (strN (D.l.take x)) := hg.1; have h60 : σ.tmps.getD 60 undef = .string (strN (D.l.take ((x : Nat)))) := hg.2.1; unfold Runs execOp; simp [Act.eval, h56, h60, go_sem], rfl⟩) ?_
      refine LinL.step (s := (.val (.bool false))) [(61, some 0)] rfl (by kernel_rfl) (op_copy 61 0 (.val (.bool false)) rfl (.inl rfl) rfl) ?_
      refine LinL.step (s := (.val (.pointer (some A)))) [(7, none), (62, some 0)] rfl (by kernel_rfl) (op_yes (reads := [(7, none)]) 8 62 0 false rfl rfl rfl (op_out 7 (.pointer (some A)) rfl (.inl rfl) rfl)) ?_
      refine LinL.step (s := (.val (.int .i64 (min D.s x : Nat)))) [(63, some 0), (62, some 1)] rfl (by kernel_rfl) (op_yes (reads := [(63, some 0)]) 8 62 1 false rfl rfl rfl (op_calls 23 #[(.tmp 63)] #[24] (fun σ => #[.pointer (some A)]) rfl rfl (fun _ _ => rfl) fun σ w' hx hg => ⟨by have h63 : σ.tmps.getD 63 undef = .pointer (some A) := hg.1; simp only [List.map_toArray, List.map_cons, List.map_nil, Act.eval, h63], (Synced_any (hd.ext hx)).mono fun e w'' h => ⟨_, h.1.trans (by rw [e2.out]), h.2 ▸ Ext.refl _, rfl⟩⟩)) ?_
      refine LinL.step (s := (.val (.int .i64 (D.s : Nat)))) [(11, none), (62, some 2)] rfl (by kernel_rfl) (op_yes (reads := [(11, none)]) 8 62 2 false rfl rfl rfl (op_out 11 (.int .i64 (D.s : Nat)) rfl (.inl rfl) rfl)) ?_
      refine LinL.step (s := (.val (.int .i64 (x : Nat)))) [(12, none), (62, some 3)] rfl (by kernel_rfl) (op_yes (reads := [(12, none)]) 8 62 3 false rfl rfl rfl (op_out 12 (.int .i64 (x : Nat)) rfl (.inl rfl) rfl)) ?_
      refine LinL.step (s := (.val (.int .i64 (min D.s x : Nat)))) [(65, some 1), (66, some 0), (62, some 4)] rfl (by kernel_rfl) (op_yes (reads := [(65, some 1), (66, some 0)]) 8 62 4 false rfl rfl rfl (op_runs rfl fun σ w' hx hg => ⟨_, runs_min (ρ := σ.eval) (w := w') (.tmp 65) (.tmp 66) ((min D.s x : Nat)) (by omega) rfl hg.1 hg.2.1, rfl⟩)) ?_
      refine LinL.step (s := (.val (.bool false))) [(64, some 3), (67, some 0), (62, some 5)] rfl (by kernel_rfl) (op_yes (reads := [(64, some 3), (67, some 0)]) 8 62 5 false rfl rfl rfl (op_runs rfl fun σ w' hx hg => ⟨(.bool false), by have h64 : σ.tmps.getD 64 undef = .int .i64 (min D.s x : Nat) := hg.1; have h67 : σ.tmps.getD 67 undef = .int .i64 (min D.s x : Nat) := hg.2.1; unfold Runs execOp; simp [Act.eval, h64, h67, go_sem], rfl⟩)) ?_
      refine LinL.step (s := (.val (.bool false))) [(62, some 6), (68, some 0)] rfl (by kernel_rfl) (op_runs rfl fun σ w' hx hg => ⟨_, runs_pick_f (ρ := σ.eval) (w := w') (.tmp 62) (.const (.bool true)) (.tmp 68) rfl hg.1 hg.2.1, rfl⟩) ?_
      refine LinL.step (s := (.val (.bool false))) [(69, some 0)] rfl (by kernel_rfl) (op_copy 69 0 (.val (.bool false)) rfl (.inl rfl) rfl) ?_
      refine LinL.step (s := (.val (.pointer (some A)))) [(7, none), (70, some 0)] rfl (by kernel_rfl) (op_yes (reads := [(7, none)]) 16 70 0 false rfl rfl rfl (op_out 7 (.pointer (some A)) rfl (.inl rfl) rfl)) ?_
      refine LinL.step (s := (.val (.int .i64 (60000 - x : Nat)))) [(71, some 0), (70, some 1)] rfl (by kernel_rfl) (op_yes (reads := [(71, some 0)]) 16 70 1 false rfl rfl rfl (op_calls 12 #[(.tmp 71)] #[24] (fun σ => #[.pointer (some A)]) rfl rfl (fun _ _ => rfl) fun σ w' hx hg => ⟨by have h71 : σ.tmps.getD 71 undef = .pointer (some A) := hg.1; simp only [List.map_toArray, List.map_cons, List.map_nil, Act.eval, h71], (Room_any (hd.ext hx)).mono fun e w'' h => ⟨_, h.1.trans (by rw [e3.out]), h.2, rfl⟩⟩)) ?_
      refine LinL.step (s := (.val (.int .i64 (x : Nat)))) [(12, none), (70, some 2)] rfl (by kernel_rfl) (op_yes (reads := [(12, none)]) 16 70 2 false rfl rfl rfl (op_out 12 (.int .i64 (x : Nat)) rfl (.inl rfl) rfl)) ?_
      refine LinL.step (s := (.val (.int .i64 (60000 - x : Nat)))) [(73, some 0), (70, some 3)] rfl (by kernel_rfl) (op_yes (reads := [(73, some 0)]) 16 70 3 false rfl rfl rfl (op_runs rfl fun σ w' hx hg => ⟨_, runs_sub (ρ := σ.eval) (w := w') (.const (.int .i64 60000)) (.tmp 73) ((60000 - x : Nat)) (by omega) (by omega) rfl rfl hg.1, rfl⟩)) ?_
      refine LinL.step (s := (.val (.bool false))) [(72, some 2), (74, some 0), (70, some 4)] rfl (by kernel_rfl) (op_yes (reads := [(72, some 2), (74, some 0)]) 16 70 4 false rfl rfl rfl (op_runs rfl fun σ w' hx hg => ⟨(.bool false), by have h72 : σ.tmps.getD 72 undef = .int .i64 (60000 - x : Nat) := hg.1; have h74 : σ.tmps.getD 74 undef = .int .i64 (60000 - x : Nat) := hg.2.1; unfold Runs execOp; simp [Act.eval, h72, h74, go_sem], rfl⟩)) ?_
      refine LinL.step (s := (.val (.bool false))) [(70, some 5), (75, some 0)] rfl (by kernel_rfl) (op_runs rfl fun σ w' hx hg => ⟨_, runs_pick_f (ρ := σ.eval) (w := w') (.tmp 70) (.const (.bool true)) (.tmp 75) rfl hg.1 hg.2.1, rfl⟩) ?_
      intro wN hxN
      simp only [Fin', List.reverse_cons, List.reverse_nil, List.nil_append, List.cons_append, List.drop_zero, List.drop_succ_cons, List.take_succ_cons, List.take_zero]
      intro q55 hq55 q59 hq59
      simp only [Act.put, List.setIfInBounds_toArray, List.set_cons_zero, List.set_cons_succ]
      replace hd := hd.ext hxN
      replace b8 := b8.ext hxN
      replace hO := hO.extend hxN
      go_wp2
      by_cases hfit : m.length ≤ 60000 - x
      · have f0 := hide_ (show (D.cut n).err m = 0 from if_pos (by rw [e3.out]; exact hfit))
        have f1 := hide_ (show ((D.cut n).app m).l = D.l.take x ++ m from by unfold DSt.app; rw [if_pos (by rw [e3.out]; exact hfit)]; show (D.cut n).l ++ m = _; rw [e1.out])
        have f2 : (D.l.take x).length + m.length ≤ 140737488355328 := by rw [List.length_take]; omega
        refine wp_region_phx (by kernel_rfl) ?_; intro wd hxd; replace hd := hd.ext hxd; replace b8 := b8.ext hxd; replace hO := hO.extend hxd; have hm1 := hm.ext hO.ext
        refine Ph.gate 0 4 (by kernel_rfl) ?_
        refine LinL.step (s := (.val (.pointer (some A)))) [(7, none)] rfl (by kernel_rfl) (op_out 7 (.pointer (some A)) rfl (.inl rfl) rfl) ?_
        refine LinL.step (s := (Sp.empty)) [] rfl (by kernel_rfl) (op_empty Try.elB rfl rfl) ?_
        refine LinL.step (s := (.val (b))) [(2, none)] rfl (by kernel_rfl) (op_out 2 (b) rfl (.inl rfl) rfl) ?_
        refine LinL.step (s := (.sl (u8s (m)))) [(78, some 1), (79, some 0)] rfl (by kernel_rfl) (op_clone Try.elB 78 79 1 [(79, some 0)] (u8s_one m) (by rw [u8s_length]; omega) rfl rfl rfl fun σ w' hx hg => by rw [hg.2.1]; exact hm1.ext hx) ?_
        intro wN hxN
        simp only [Fin', Sp.empty, List.reverse_cons, List.reverse_nil, List.nil_append, List.cons_append, List.drop_zero, List.drop_succ_cons, List.take_succ_cons, List.take_zero]
        intro q78 hq78 q80 hq80
        simp only [Act.put, List.setIfInBounds_toArray, List.set_cons_zero, List.set_cons_succ]
        refine wpOp_call 11 #[.pointer (some A), q80] 81 rfl rfl rfl rfl (fun _ _ => rfl) (by simp only [List.map_toArray, List.map_cons, List.map_nil, Act.eval]; rfl) ?_
        refine (Append_any (hd.ext hxN) hq80).mono ?_; rintro e wz ⟨F', rfl, hup, hd'⟩; replace b8 : Byt wz v8 D.l := Sl.mod (b8.ext hxN) hup.mod h8n; replace hO := (hO.extend hxN).upd hup; rw [f0.out]; have hm1 := hm.ext hO.ext; clear hd; refine ⟨_, rfl, ?_⟩
        simp only [Act.put, List.setIfInBounds_toArray, List.set_cons_zero, List.set_cons_succ]
        refine Ph.rest 5 15 (by kernel_rfl) ?_
        refine LinL.step (s := (.val (.bool false))) [(81, none)] rfl (by kernel_rfl) (op_runs rfl fun σ w' hx hg => ⟨(.bool false), by have h81 : σ.tmps.getD 81 undef = .int .i64 (0 : Nat) := hg.1; unfold Runs execOp; simp [Act.eval, h81, go_sem], rfl⟩) ?_
        refine LinL.step (s := (.val (.bool false))) [(82, some 0)] rfl (by kernel_rfl) (op_copy 82 0 (.val (.bool false)) rfl (.inl rfl) rfl) ?_
        refine LinL.step (s := (.val (.pointer (some A)))) [(7, none), (83, some 0)] rfl (by kernel_rfl) (op_yes (reads := [(7, none)]) 6 83 0 false rfl rfl rfl (op_out 7 (.pointer (some A)) rfl (.inl rfl) rfl)) ?_
        refine LinL.step (s := (.sl (u8s (D.l.take x ++ m)))) [(84, some 0), (83, some 1)] rfl (by kernel_rfl) (op_yes (reads := [(84, some 0)]) 6 83 1 false rfl rfl rfl (op_calls 22 #[(.tmp 84)] #[24] (fun σ => #[.pointer (some A)]) rfl rfl (fun _ _ => rfl) fun σ w' hx hg => ⟨by have h84 : σ.tmps.getD 84 undef = .pointer (some A) := hg.1; simp only [List.map_toArray, List.map_cons, List.map_nil, Act.eval, h84], (Bytes_any (hd'.ext hx)).mono fun e w'' ⟨v, he, hx', hr⟩ => ⟨v, he, hx', (f1.out ▸ hr.sl : Sl _ v (u8s (D.l.take x ++ m)))⟩⟩)) ?_
        refine LinL.step (s := (.val (.string (strN (D.l.take x ++ m))))) [(85, some 0), (83, some 2)] rfl (by kernel_rfl) (op_yes (reads := [(85, some 0)]) 6 83 2 false rfl rfl rfl (op_runs rfl fun σ w' hx hg => ⟨_, runs_str (ρ := σ.eval) (w := w') (.tmp 85) rfl rfl hg.1, rfl⟩)) ?_
        refine LinL.step (s := (.val (v8))) [(10, none), (83, some 3)] rfl (by kernel_rfl) (op_yes (reads := [(10, none)]) 6 83 3 false rfl rfl rfl (op_out 10 (v8) rfl (.inl rfl) rfl)) ?_
        refine LinL.step (s := (.val (.int .i64 (x : Nat)))) [(12, none), (83, some 4)] rfl (by kernel_rfl) (op_yes (reads := [(12, none)]) 6 83 4 false rfl rfl rfl (op_out 12 (.int .i64 (x : Nat)) rfl (.inl rfl) rfl)) ?_
        refine LinL.step (s := (.sl (u8s (D.l.take ((x : Nat)))))) [(87, some 1), (88, some 0), (83, some 5)] rfl (by kernel_rfl) (op_yes (reads := [(87, some 1), (88, some 0)]) 6 83 5 false rfl rfl rfl (op_runs rfl fun σ w' hx hg => rcut (ρ := σ.eval) (w := w') (.tmp 87) rfl hg.1 (b8.ext hx) 0 ((x : Nat)) (.inr ⟨rfl, rfl⟩) (.inl ⟨(.tmp 88), rfl, hg.2.1⟩) (by omega) (by omega) (by simp))) ?_
        refine LinL.step (s := (.val (.string (strN (D.l.take ((x : Nat))))))) [(89, some 0), (83, some 6)] rfl (by kernel_rfl) (op_yes (reads := [(89, some 0)]) 6 83 6 false rfl rfl rfl (op_runs rfl fun σ w' hx hg => ⟨_, runs_str (ρ := σ.eval) (w := w') (.tmp 89) rfl rfl hg.1, rfl⟩)) ?_
        refine LinL.step (s := (.val (b))) [(2, none), (83, some 7)] rfl (by kernel_rfl) (op_yes (reads := [(2, none)]) 6 83 7 false rfl rfl rfl (op_out 2 (b) rfl (.inl rfl) rfl)) ?_
        refine LinL.step (s := (.val (.string (strN m)))) [(91, some 0), (83, some 8)] rfl (by kernel_rfl) (op_yes (reads := [(91, some 0)]) 6 83 8 false rfl rfl rfl (op_runs rfl fun σ w' hx hg => ⟨_, runs_str (ρ := σ.eval) (w := w') (.tmp 91) rfl hg.1 (hm1.ext hx), rfl⟩)) ?_
        refine LinL.step (s := (.val (.string (strN (D.l.take x ++ m))))) [(90, some 2), (92, some 0), (83, some 9)] rfl (by kernel_rfl) (op_yes (reads := [(90, some 2), (92, some 0)]) 6 83 9 false rfl rfl rfl (op_runs rfl fun σ w' hx hg => ⟨_, runs_cat (ρ := σ.eval) (w := w') (.tmp 90) (.tmp 92) rfl hg.1 hg.2.1 f2, rfl⟩)) ?_
        refine LinL.step (s := (.val (.bool true))) [(86, some 7), (93, some 0), (83, some 10)] rfl (by kernel_rfl) (op_yes (reads := [(86, some 7), (93, some 0)]) 6 83 10 false rfl rfl rfl (op_runs rfl fun σ w' hx hg => ⟨(.bool true), by have h86 : σ.tmps.getD 86 undef = .string (strN (D.l.take x ++ m)) := hg.1; have h93 : σ.tmps.getD 93 undef = .string (strN (D.l.take x ++ m)) := hg.2.1; unfold Runs execOp; simp [Act.eval, h86, h93, go_sem], rfl⟩)) ?_
        refine LinL.step (s := (.val (.bool true))) [(83, some 11), (94, some 0)] rfl (by kernel_rfl) (op_runs rfl fun σ w' hx hg => ⟨_, runs_pick_f (ρ := σ.eval) (w := w') (.tmp 83) (.const (.bool true)) (.tmp 94) rfl hg.1 hg.2.1, rfl⟩) ?_
        refine LinL.step (s := (.val (.bool true))) [(95, some 0)] rfl (by kernel_rfl) (op_copy 95 0 (.val (.bool true)) rfl (.inr rfl) rfl) ?_
        intro wN hxN
        simp only [Fin', List.reverse_cons, List.reverse_nil, List.nil_append, List.cons_append, List.drop_zero, List.drop_succ_cons, List.take_succ_cons, List.take_zero]
        intro q85 hq85 q89 hq89
        simp only [Act.put, List.setIfInBounds_toArray, List.set_cons_zero, List.set_cons_succ]
        go_wp2
        go_ret
        exact Keep.intro ⟨rfl, hO.ext.trans hxN⟩
      · have f0 := hide_ (show (D.cut n).err m = 41 from if_neg (by rw [e3.out]; exact hfit))
        refine wp_region_phx (by kernel_rfl) ?_; intro wd hxd; replace hd := hd.ext hxd; replace b8 := b8.ext hxd; replace hO := hO.extend hxd; have hm1 := hm.ext hO.ext
        refine Ph.gate 0 4 (by kernel_rfl) ?_
        refine LinL.step (s := (.val (.pointer (some A)))) [(7, none)] rfl (by kernel_rfl) (op_out 7 (.pointer (some A)) rfl (.inl rfl) rfl) ?_
        refine LinL.step (s := (Sp.empty)) [] rfl (by kernel_rfl) (op_empty Try.elB rfl rfl) ?_
        refine LinL.step (s := (.val (b))) [(2, none)] rfl (by kernel_rfl) (op_out 2 (b) rfl (.inl rfl) rfl) ?_
        refine LinL.step (s := (.sl (u8s (m)))) [(78, some 1), (79, some 0)] rfl (by kernel_rfl) (op_clone Try.elB 78 79 1 [(79, some 0)] (u8s_one m) (by rw [u8s_length]; omega) rfl rfl rfl fun σ w' hx hg => by rw [hg.2.1]; exact hm1.ext hx) ?_
        intro wN hxN
        simp only [Fin', Sp.empty, List.reverse_cons, List.reverse_nil, List.nil_append, List.cons_append, List.drop_zero, List.drop_succ_cons, List.take_succ_cons, List.take_zero]
        intro q78 hq78 q80 hq80
        simp only [Act.put, List.setIfInBounds_toArray, List.set_cons_zero, List.set_cons_succ]
        refine wpOp_call 11 #[.pointer (some A), q80] 81 rfl rfl rfl rfl (fun _ _ => rfl) (by simp only [List.map_toArray, List.map_cons, List.map_nil, Act.eval]; rfl) ?_
        refine (Append_any (hd.ext hxN) hq80).mono ?_; rintro e wz ⟨F', rfl, hup, hd'⟩; replace b8 : Byt wz v8 D.l := Sl.mod (b8.ext hxN) hup.mod h8n; replace hO := (hO.extend hxN).upd hup; rw [f0.out]; have hm1 := hm.ext hO.ext; clear hd; refine ⟨_, rfl, ?_⟩
        simp only [Act.put, List.setIfInBounds_toArray, List.set_cons_zero, List.set_cons_succ]
        refine Ph.rest 5 15 (by kernel_rfl) ?_
        refine LinL.step (s := (.val (.bool true))) [(81, none)] rfl (by kernel_rfl) (op_runs rfl fun σ w' hx hg => ⟨(.bool true), by have h81 : σ.tmps.getD 81 undef = .int .i64 (41 : Nat) := hg.1; unfold Runs execOp; simp [Act.eval, h81, go_sem], rfl⟩) ?_
        refine LinL.step (s := (.val (.bool true))) [(82, some 0)] rfl (by kernel_rfl) (op_copy 82 0 (.val (.bool true)) rfl (.inl rfl) rfl) ?_
        refine LinL.step (s := .val undef) [(7, none), (83, some 0)] rfl (by kernel_rfl) (op_no (reads := [(7, none)]) 6 83 0 false rfl rfl rfl) ?_
        refine LinL.step (s := .val undef) [(84, some 0), (83, some 1)] rfl (by kernel_rfl) (op_no (reads := [(84, some 0)]) 6 83 1 false rfl rfl rfl) ?_
        refine LinL.step (s := .val undef) [(85, some 0), (83, some 2)] rfl (by kernel_rfl) (op_no (reads := [(85, some 0)]) 6 83 2 false rfl rfl rfl) ?_
        refine LinL.step (s := .val undef) [(10, none), (83, some 3)] rfl (by kernel_rfl) (op_no (reads := [(10, none)]) 6 83 3 false rfl rfl rfl) ?_
        refine LinL.step (s := .val undef) [(12, none), (83, some 4)] rfl (by kernel_rfl) (op_no (reads := [(12, none)]) 6 83 4 false rfl rfl rfl) ?_
        refine LinL.step (s := .val undef) [(87, some 1), (88, some 0), (83, some 5)] rfl (by kernel_rfl) (op_no (reads := [(87, some 1), (88, some 0)]) 6 83 5 false rfl rfl rfl) ?_
        refine LinL.step (s := .val undef) [(89, some 0), (83, some 6)] rfl (by kernel_rfl) (op_no (reads := [(89, some 0)]) 6 83 6 false rfl rfl rfl) ?_
        refine LinL.step (s := .val undef) [(2, none), (83, some 7)] rfl (by kernel_rfl) (op_no (reads := [(2, none)]) 6 83 7 false rfl rfl rfl) ?_
        refine LinL.step (s := .val undef) [(91, some 0), (83, some 8)] rfl (by kernel_rfl) (op_no (reads := [(91, some 0)]) 6 83 8 false rfl rfl rfl) ?_
        refine LinL.step (s := .val undef) [(90, some 2), (92, some 0), (83, some 9)] rfl (by kernel_rfl) (op_no (reads := [(90, some 2), (92, some 0)]) 6 83 9 false rfl rfl rfl) ?_
        refine LinL.step (s := .val undef) [(86, some 7), (93, some 0), (83, some 10)] rfl (by kernel_rfl) (op_no (reads := [(86, some 7), (93, some 0)]) 6 83 10 false rfl rfl rfl) ?_
        refine LinL.step (s := (.val (.bool true))) [(83, some 11), (94, some 0)] rfl (by kernel_rfl) (op_runs rfl fun σ w' hx hg => ⟨_, runs_pick_t (ρ := σ.eval) (w := w') (.tmp 83) (.const (.bool true)) (.tmp 94) rfl hg.1 rfl, rfl⟩) ?_
        refine LinL.step (s := (.val (.bool true))) [(95, some 0)] rfl (by kernel_rfl) (op_copy 95 0 (.val (.bool true)) rfl (.inr rfl) rfl) ?_
        intro wN hxN
        simp only [Fin', List.reverse_cons, List.reverse_nil, List.nil_append, List.cons_append, List.drop_zero, List.drop_succ_cons, List.take_succ_cons, List.take_zero]
        simp only [Act.put, List.setIfInBounds_toArray, List.set_cons_zero, List.set_cons_succ]
        go_wp2
        go_ret
        exact Keep.intro ⟨rfl, hO.ext.trans hxN⟩

set_option maxRecDepth 100000 in
theorem diskCuts_lifted (os : Os) (started : os.Started) (H : Type) (enc : TypeId × Value → H) :
    ReturnsInHanded {} Try.checked os 7 .any (Rows.diskCutsSpec.pre6 enc Try.prog Try.f7 Rows.diskCutsRow.domain false) (Rows.diskCutsSpec.post enc Try.prog Try.f7 false true false false) := by
  refine law_lifted (s := Rows.diskCutsSpec) (conds := Rows.diskCutsRow.domain) Try.func7 (by kernel_rfl) rfl (fun H ds h => by
      rw [show Try.f7.params.size = 3 from rfl] at h
      match ds, h with
      | [d0, d1, d2], _ => rfl) rfl rfl (by decide +kernel) os started H enc
    (ChangeSpec.witness6 (enc := enc) (C := Try.checked) false ⟨#[], #[.slice none 0 0, .int .i64 0, .slice none 0 0], []⟩ 8 (by kernel_rfl) (by kernel_rfl) (by kernel_rfl) (by kernel_rfl)) ?_
  intro W base args ds p hval hA hsz _
  have hp : Try.f7.params.toList = [43, 3, 27] := rfl
  rw [hp] at hA hsz
  obtain ⟨v0, v1, v2, d0, d1, d2, p0, p1, p2, rfl, rfl, rfl, h0, h1, h2⟩ := trodAll_three hA
  obtain ⟨l0, a0⟩ := arg_bb hsz (j := 0) rfl rfl (hval 0 43 v0 rfl rfl) h0
  obtain ⟨a1, rfl, b1, c1⟩ := arg_int (hval 1 3 v1 rfl rfl) h1
  obtain ⟨l2, a2, b2, c2⟩ := arg_bytes hsz (j := 2) rfl rfl (hval 2 27 v2 rfl rfl) h2
  exact diskCuts_law v0 l0 a1 v2 l2 W a0 a2

theorem diskCuts_holds : Rows.DiskCutsSaid :=
  OpenClaim.holds_of_wide 7 Try.f7 rfl rfl rfl rfl rfl rfl rfl ⟨rfl, rfl, rfl, rfl, rfl⟩ rfl rfl rfl rfl rfl (by kernel_rfl) Try.func7 (by kernel_rfl)
    (of_decide_eq_true (by kernel_rfl)) (by unfold Func.isWrapper; first | (rw [if_pos (by decide +kernel)]; kernel_rfl) | (rw [if_neg (by decide +kernel)]; exact ⟨rfl, rfl⟩))
    (fun os started H enc _ => diskCuts_lifted os started H enc)
#print axioms diskCuts_holds

end Go.Proofs.Ytkcmhbinphgimaa
