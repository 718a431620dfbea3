/- The statement JournalRuns: whatever is done with a journal: all answers, what is on the disk, and which records are found are the document's. No condition. -/
import Derived.Test.YtfhecifgpjbeiaaJNames
import Derived.Test.YtfhecifgpjbeiaaJRf3
import Derived.Test.YtfhecifgpjbeiaaJActs
import Derived.Test.YtfhecifgpjbeiaaOwnW
namespace Go.Proofs.Ytfhecifgpjbeiaa
open Go.RowKit Go.ChangeShapes Go.WideShapes Go.ChangeAt

theorem jAdd_ok {D : DSt} (h : D.Ok) (r : RecD) : (jAdd D r).Ok := by
  unfold jAdd; split
  · exact h.app _
  · exact h
theorem jAdd_lt {D : DSt} (h : ∀ x ∈ D.l, x < 256) {r : RecD} (ht : ∀ x ∈ r.t, x < 256) : ∀ x ∈ (jAdd D r).l, x < 256 := by
  unfold jAdd; split
  · rename_i hr
    unfold DSt.app; split
    · intro x hx
      rcases List.mem_append.1 hx with hx | hx
      · exact h x hx
      · exact RecD.bs_lt hr ht x hx
    · exact h
  · exact h
theorem app_lt {D : DSt} (h : ∀ x ∈ D.l, x < 256) {b : List Nat} (hb : ∀ x ∈ b, x < 256) : ∀ x ∈ (D.app b).l, x < 256 := by
  unfold DSt.app; split
  · intro x hx
    rcases List.mem_append.1 hx with hx | hx
    · exact h x hx
    · exact hb x hx
  · exact h

set_option maxRecDepth 100000 in
set_option maxHeartbeats 12800000 in
theorem journalRuns_law (n : Int) (v : Value) (l : List ActJ) (W : World) (hl : Recs 8 ActR W v l) :
    Calls Try.prog 5 #[.int .i64 n, v] W fun e w' => e = .returned (.bool true) ∧ Ext W w' := by
  refine calls_keep ?_
  have ho0 : DSt.Ok ⟨[], 0, 0⟩ := ⟨by simp, by simp, by simp⟩
  have hR0 : ∀ (G : Nat → Prop) w, RD G w (.agg #[.slice none 0 0, .int .i64 0, .int .i64 0]) ⟨[], 0, 0⟩ := fun G w => RD.made (D := ⟨[], 0, 0⟩) ⟨Sl.nil _, (fun k hk => nomatch hk), (fun k hk => nomatch hk)⟩ ho0
  have hb0 : Hid (DSt.setLim ⟨[], 0, 0⟩ n = DSt.new n) := hide_ rfl
  by_cases hbig : 100 < l.length
  · have t0 : decide ((100 : Int) < (l.length : Int)) = true := by simp; omega
    clear hbig
    go_enter Try.func5, Try.ntmps5
    go_wp2_with ((first
      | (go_at_call 10; refine (alive_any _).mono ?_; rintro e w1 ⟨rfl, hX⟩)
      | (go_at_call 15; ((with_reducible refine (New_any _ _).mono ?_); rintro e w2 ⟨p, rfl, hx1, hd⟩; have hO := Out.of_new hX hx1 hd; obtain ⟨A, rfl⟩ := hd.ne_nil; obtain ⟨F0, hd, hO⟩ : ∃ F0, Dsk F0 w2 (.pointer (some A)) (.new n) ∧ Out W F0 w2 := ⟨_, hd, hO⟩; clear hX hx1))
      | (go_at_call 16; refine (RLimit_any n (hR0 F0 _)).mono ?_; rintro e w3 ⟨val, rfl, hx3, hR⟩; obtain ⟨⟨vz, rfl, hZ⟩, _⟩ := hR; replace hO := hO.extend hx3; replace hd := hd.ext hx3; have cz : vz.oneCell' = true := hZ.sl.one')
      | (refine w_alloc Try.stR rfl rfl ?_; intro g6 w4 hg6 hx4 f6; have hn6 : W.heap.size ≤ g6 := Nat.le_trans hO.ext.size hg6; have n6 : ¬ F0 g6 := (fun h => by have := hd.bd g6 h; omega); have hS := (hZ.weak (G' := fun k => F0 k ∨ k = g6) (fun k hk h => h.elim id fun e => by omega)).ext hx4; replace hO := hO.extend hx4; replace hd := hd.ext hx4)
      | (refine w_astore Try.stR (us := [vz, .int .i64 (DSt.setLim ⟨[], 0, 0⟩ n).s, .int .i64 (DSt.setLim ⟨[], 0, 0⟩ n).lim]) _ _ rfl rfl rfl rfl rfl f6 rfl rfl (List.forall_mem_cons.2 ⟨cz, List.forall_mem_cons.2 ⟨rfl, List.forall_mem_cons.2 ⟨rfl, by simp⟩⟩⟩) ?_; intro wS hmS f6'; replace f6 := f6'; replace hO := hO.other hmS (fun j e => e ▸ hn6); replace hd := hd.mod hmS (fun j hj e => n6 (e ▸ hj)); replace hS := hS.mod' hmS (fun j hj e => hS.off j hj (.inr e)); rw [hb0.out] at f6 hS; clear hmS f6')
      | ((try refine w_yes _ _ _ rfl rfl rfl ?_); refine w_rlen Try.elA _ rfl rfl rfl (hl.ext ActR.stays hO.ext) ?_)
      | fail) <;> (try simp only [Act.put, List.setIfInBounds_toArray, List.set_cons_zero, List.set_cons_succ]))
    go_ret
    exact Keep.intro ⟨rfl, hO.ext⟩
  have t0 : decide ((100 : Int) < (l.length : Int)) = false := by simp; omega
  have h100 : l.length ≤ 100 := by omega
  clear hbig
  go_enter Try.func5, Try.ntmps5
  go_wp2_with ((first
    | (go_at_call 10; refine (alive_any _).mono ?_; rintro e w1 ⟨rfl, hX⟩)
    | (go_at_call 15; ((with_reducible refine (New_any _ _).mono ?_); rintro e w2 ⟨p, rfl, hx1, hd⟩; have hO := Out.of_new hX hx1 hd; obtain ⟨A, rfl⟩ := hd.ne_nil; obtain ⟨F0, hd, hO⟩ : ∃ F0, Dsk F0 w2 (.pointer (some A)) (.new n) ∧ Out W F0 w2 := ⟨_, hd, hO⟩; clear hX hx1))
    | (go_at_call 16; refine (RLimit_any n (hR0 F0 _)).mono ?_; rintro e w3 ⟨val, rfl, hx3, hR⟩; obtain ⟨⟨vz, rfl, hZ⟩, _⟩ := hR; replace hO := hO.extend hx3; replace hd := hd.ext hx3; have cz : vz.oneCell' = true := hZ.sl.one')
    | (refine w_alloc Try.stR rfl rfl ?_; intro g6 w4 hg6 hx4 f6; have hn6 : W.heap.size ≤ g6 := Nat.le_trans hO.ext.size hg6; have n6 : ¬ F0 g6 := (fun h => by have := hd.bd g6 h; omega); have hS := (hZ.weak (G' := fun k => F0 k ∨ k = g6) (fun k hk h => h.elim id fun e => by omega)).ext hx4; replace hO := hO.extend hx4; replace hd := hd.ext hx4)
    | (refine w_astore Try.stR (us := [vz, .int .i64 (DSt.setLim ⟨[], 0, 0⟩ n).s, .int .i64 (DSt.setLim ⟨[], 0, 0⟩ n).lim]) _ _ rfl rfl rfl rfl rfl f6 rfl rfl (List.forall_mem_cons.2 ⟨cz, List.forall_mem_cons.2 ⟨rfl, List.forall_mem_cons.2 ⟨rfl, by simp⟩⟩⟩) ?_; intro wS hmS f6'; replace f6 := f6'; replace hO := hO.other hmS (fun j e => e ▸ hn6); replace hd := hd.mod hmS (fun j hj e => n6 (e ▸ hj)); replace hS := hS.mod' hmS (fun j hj e => hS.off j hj (.inr e)); rw [hb0.out] at f6 hS; clear hmS f6')
    | ((try refine w_yes _ _ _ rfl rfl rfl ?_); refine w_rlen Try.elA _ rfl rfl rfl (hl.ext ActR.stays hO.ext) ?_)
    | fail) <;> (try simp only [Act.put, List.setIfInBounds_toArray, List.set_cons_zero, List.set_cons_succ]))
  go_loopw [31] (fun i wr => ∃ (k : Nat) (F : Nat → Prop) (D : DSt) (vw : Value), i = .int .i64 k ∧ k ≤ l.length ∧ Dsk F wr (.pointer (some A)) D ∧ Out W F wr ∧ Fs wr g6 [vw, .int .i64 D.s, .int .i64 D.lim] ∧ Safe (fun j => F j ∨ j = g6) wr vw (u8s D.l) ∧ ¬ F g6 ∧ Hid (∀ x ∈ D.l, x < 256)) (fun i _ => l.length - (intOf i).toNat)
  case atStart => exact ⟨0, F0, _, vz, rfl, Nat.zero_le _, hd, hO, f6, hS, n6, hide_ (by simp [DSt.new])⟩
  case round =>
    clear hd hO f6 hS n6
    obtain ⟨k, F, D, vw, rfl, hk, hd, hO, f6, hS, n6, hlt1⟩ := hrel
    have cw : vw.oneCell' = true := hS.sl.one'
    by_cases hge : l.length ≤ k
    · have t1 : decide (k < l.length) = false := by simpa using hge
      clear hge
      go_wp2
      go_ret
      exact Keep.intro ⟨rfl, hO.ext⟩
    have hlt : k < l.length := by omega
    have t1 : decide (k < l.length) = true := by simpa using hlt
    clear hge
    obtain ⟨d, hlk⟩ : ∃ d, l[k] = d := ⟨_, rfl⟩
    have hdok : d.Ok := by
      have := recs_ok_of hl (p := fun d => d.Ok) (fun w row d h => h.2) l[k] (List.getElem_mem hlt)
      rwa [hlk] at this
    replace hlk := hide_ hlk
    have ho := hd.ok
    have n6W := hn6
    by_cases hk0 : d.k = 0
    · have hc0 : (d.k == 0) = true := by rw [beq_iff_eq]; exact hk0
      obtain ⟨D2, hD2⟩ : ∃ D2, D2 = jAdd D d.r := ⟨_, rfl⟩
      have ho2 := hide_ (show D2.Ok from hD2 ▸ (jAdd_ok ho _))
      have hlt2 := hide_ (show ∀ x ∈ D2.l, x < 256 from hD2 ▸ (jAdd_lt hlt1.out hdok.r.t.1))
      replace hD2 := hide_ hD2.symm
      clear hdok hlt1 hk0
      go_wp2_with ((first
        | (refine w_ridx0 Try.elA _ _ k ActR.stays rfl rfl rfl rfl hl hO.ext hlt ?_; rintro p row hrow hrl hr; rw [hlk.out] at hr; obtain ⟨⟨u, u2, rfl, hu, hu2⟩, hok⟩ := hr; have cu := hu.one'; have cu2 := hu2.one'; replace hok := hide_ hok)
        | (refine w_ploadN Try.stA _ rfl rfl rfl (hrow.ext hO.ext) rfl ?_)
        | (refine w_allocN Try.stA rfl rfl ?_; intro g8 w7 hg hx4 f8; have n8 : ¬ F g8 := (fun h => by have := hd.bd g8 h; omega); have n68 : g6 ≠ g8 := (by have := f6.lt; omega))
        | (refine w_astoreN Try.stA (us := [.int .i64 d.k, .int .i64 d.n, .int .i64 d.r.k, .int .i64 d.r.i, .int .i64 d.r.v, .int .i64 d.r.x, u, u2]) _ _ rfl rfl rfl rfl rfl f8 rfl rfl (by intro y hy; simp at hy; rcases hy with rfl | rfl | rfl | rfl | rfl | rfl | rfl | rfl <;> first | rfl | assumption) ?_; intro w8 hm8 f8'; replace f8 := f8'; have hx := hm8.after hx4 (fun i e => e ▸ hg); replace hd := hd.ext hx; replace hO := hO.extend hx; replace f6 := f6.ext hx; replace hS := hS.ext hx; clear f8' hm8 hx4 hg hx hrow)
        | (refine w_loadN Try.stRec.toN _ [.int .i64 d.r.k, .int .i64 d.r.i, .int .i64 d.r.v, .int .i64 d.r.x, u] rfl rfl rfl f8 rfl (by intro j y h; rcases j with _ | _ | _ | _ | _ | j; simpa using h; simpa using h; simpa using h; simpa using h; simpa using h; simp at h) ?_)
        | (go_at_call 17; refine (JAdd_any (RecR.made (r := d.r) hu hok.out.r hO.ext) hd).mono ?_; rintro e wz ⟨F', rfl, hup, hd'⟩; have n8' : ¬ F' g8 := (fun h => (hup.sub g8 h).elim n8 (fun e => by have := f8.lt; omega)); have n6' : ¬ F' g6 := (fun h => (hup.sub g6 h).elim n6 (fun e => by have := f6.lt; omega)); replace f6 := f6.mod hup.mod n6; replace f8 := f8.mod hup.mod n8; replace hS := hS.updU hup; replace hO := hO.upd hup; replace hd := hd'; replace n8 := n8'; replace n6 := n6'; clear hup hd' n6' n8')
        | (go_at_call 18; refine (refAdd_any (fun j hj => hj.elim (fun h => hd.bd j h) (fun h => by have := f6.lt; omega)) (RecR.made (r := d.r) hu hok.out.r hO.ext) (RD.made (D := D) hS ho)).mono ?_; rintro e wr2 ⟨val, rfl, hxr, hR⟩; rw [hD2.out] at hR; obtain ⟨⟨vz, rfl, hZ⟩, _⟩ := hR; replace hO := hO.extend hxr; replace hd := hd.ext hxr; replace f6 := f6.ext hxr; replace f8 := f8.ext hxr; have cz : vz.oneCell' = true := hZ.sl.one'; clear hxr hS)
        | (refine w_aload Try.stR _ rfl rfl rfl f6 rfl ?_)
        | (refine w_astore Try.stR (us := [vz, .int .i64 D2.s, .int .i64 D2.lim]) _ _ rfl rfl rfl rfl rfl f6 rfl rfl (List.forall_mem_cons.2 ⟨cz, List.forall_mem_cons.2 ⟨rfl, List.forall_mem_cons.2 ⟨rfl, by simp⟩⟩⟩) ?_; intro wS hmS f6'; replace f6 := f6'; clear f6'; replace hd := hd.mod hmS (fun j hj e => n6 (e ▸ hj)); replace hO := hO.other hmS (fun j e => e ▸ hn6); replace hS := hZ.mod' hmS (fun j hj e => hZ.off j hj (.inr e)); clear hmS hZ)
        | (go_at_call 13; refine (refScan_any hlt2.out (by have := ho2.out.len; omega) hS.sl).mono ?_; rintro e wq ⟨v11, rfl, hx, hJ⟩; have j11 := hJ.recs; replace hd := hd.ext hx; replace hO := hO.extend hx; replace f6 := f6.ext hx; replace hS := hS.ext hx; clear hJ hx)
        | (refine w_fieldN (i := 0) (off := 0) (by kernel_rfl) _ g8 rfl rfl rfl ?_)
        | (refine w_fieldN (i := 1) (off := 1) (by kernel_rfl) _ g8 rfl rfl rfl ?_)
        | (refine w_fieldN (i := 2) (off := 2) (by kernel_rfl) _ g8 rfl rfl rfl ?_)
        | (refine w_fieldN (i := 3) (off := 7) (by kernel_rfl) _ g8 rfl rfl rfl ?_)
        | (refine w_field Try.stR _ g6 _ rfl rfl rfl (by omega) ?_)
        | (refine w_fload _ rfl rfl rfl f8 rfl (agg_of (by kernel_rfl)) ?_)
        | (refine w_fload _ rfl rfl rfl f6 rfl (agg_of (by kernel_rfl)) ?_)
        | fail) <;> (try simp only [Act.put, List.setIfInBounds_toArray, List.set_cons_zero, List.set_cons_succ]))
      rw [hD2.out] at hd
      refine wp_region_phx (by kernel_rfl) ?_; intro wd hxd; replace hd := hd.ext hxd; replace hO := hO.extend hxd; replace f6 := f6.ext hxd; replace hS := hS.ext hxd; replace j11 := j11.ext RecR.stays hxd; have bz : Byt wd vz D2.l := hS.sl
      refine Ph.rest 0 19 (by kernel_rfl) ?_
      refine LinL.step (s := (.val (.int .i64 (jAddE D d.r : Nat)))) [(9, none)] rfl (by kernel_rfl) (op_out 9 (.int .i64 (jAddE D d.r : Nat)) rfl (.inl rfl) rfl) ?_
      refine LinL.step (s := (.val (.int .i64 (jAddE D d.r : Nat)))) [(10, none)] rfl (by kernel_rfl) (op_out 10 (.int .i64 (jAddE D d.r : Nat)) rfl (.inl rfl) rfl) ?_
      refine LinL.step (s := (.val (.bool false))) [(87, some 1), (88, some 0)] rfl (by kernel_rfl) (op_runs rfl fun σ w' hx hg => ⟨(.bool false), by have h87 : σ.tmps.getD 87 undef = .int .i64 (jAddE D d.r : Nat) := hg.1; have h88 : σ.tmps.getD 88 undef = .int .i64 (jAddE D d.r : Nat) := hg.2.1; unfold Runs execOp; simp [Act.eval, h87, h88, go_sem], rfl⟩) ?_
      refine LinL.step (s := (.val (.bool false))) [(89, some 0)] rfl (by kernel_rfl) (op_copy 89 0 (.val (.bool false)) rfl (.inl rfl) rfl) ?_
      refine LinL.step (s := (.val (.pointer (some A)))) [(5, none), (90, some 0)] rfl (by kernel_rfl) (op_yes (reads := [(5, none)]) 3 90 0 false rfl rfl rfl (op_out 5 (.pointer (some A)) rfl (.inl rfl) rfl)) ?_
      refine LinL.step (s := (.sl (u8s (D2.l)))) [(91, some 0), (90, some 1)] rfl (by kernel_rfl) (op_yes (reads := [(91, some 0)]) 3 90 1 false rfl rfl rfl (op_calls 25 #[(.tmp 91)] #[37] (fun σ => #[.pointer (some A)]) rfl rfl (fun _ _ => rfl) fun σ w' hx hg => ⟨by have h91 : σ.tmps.getD 91 undef = .pointer (some A) := hg.1; simp only [List.map_toArray, List.map_cons, List.map_nil, Act.eval, h91], (Bytes_any (hd.ext hx)).mono fun e w'' ⟨v, he, hx', hr⟩ => ⟨v, he, hx', hr.sl⟩⟩)) ?_
      refine LinL.step (s := (.val (.string (strN D2.l)))) [(92, some 0), (90, some 2)] rfl (by kernel_rfl) (op_yes (reads := [(92, some 0)]) 3 90 2 false rfl rfl rfl (op_runs rfl fun σ w' hx hg => ⟨_, runs_str (ρ := σ.eval) (w := w') (.tmp 92) rfl rfl hg.1, rfl⟩)) ?_
      refine LinL.step (s := (.val (.pointer (some ⟨g6, 0, none⟩)))) [(6, none), (90, some 3)] rfl (by kernel_rfl) (op_yes (reads := [(6, none)]) 3 90 3 false rfl rfl rfl (op_runs rfl fun σ w' hx hg => ⟨_, runs_field (ρ := σ.eval) (w := w') Try.stR (.tmp 6) g6 0 rfl hg.1 (by omega), rfl⟩)) ?_
      refine LinL.step (s := (.val (vz))) [(94, some 0), (90, some 4)] rfl (by kernel_rfl) (op_yes (reads := [(94, some 0)]) 3 90 4 false rfl rfl rfl (op_runs rfl fun σ w' hx hg => ⟨_, runs_fload (ρ := σ.eval) (w := w') (.tmp 94) rfl hg.1 (agg_of (by kernel_rfl) _) (f6.ext hx) rfl, rfl⟩)) ?_
      refine LinL.step (s := (.val (.string (strN D2.l)))) [(95, some 0), (90, some 5)] rfl (by kernel_rfl) (op_yes (reads := [(95, some 0)]) 3 90 5 false rfl rfl rfl (op_runs rfl fun σ w' hx hg => ⟨_, runs_str (ρ := σ.eval) (w := w') (.tmp 95) rfl hg.1 (bz.ext hx), rfl⟩)) ?_
      refine LinL.step (s := (.val (.bool false))) [(93, some 3), (96, some 0), (90, some 6)] rfl (by kernel_rfl) (op_yes (reads := [(93, some 3), (96, some 0)]) 3 90 6 false rfl rfl rfl (op_runs rfl fun σ w' hx hg => ⟨(.bool false), by have h93 : σ.tmps.getD 93 undef = .string (strN D2.l) := hg.1; have h96 : σ.tmps.getD 96 undef = .string (strN D2.l) := hg.2.1; unfold Runs execOp; simp [Act.eval, h93, h96, go_sem], rfl⟩)) ?_
      refine LinL.step (s := (.val (.bool false))) [(90, some 7), (97, some 0)] rfl (by kernel_rfl) (op_runs rfl fun σ w' hx hg => ⟨_, runs_pick_f (ρ := σ.eval) (w := w') (.tmp 90) (.const (.bool true)) (.tmp 97) rfl hg.1 hg.2.1, rfl⟩) ?_
      refine LinL.step (s := (.val (.bool false))) [(98, some 0)] rfl (by kernel_rfl) (op_copy 98 0 (.val (.bool false)) rfl (.inl rfl) rfl) ?_
      refine LinL.step (s := (.val (.pointer (some A)))) [(5, none), (99, some 0)] rfl (by kernel_rfl) (op_yes (reads := [(5, none)]) 12 99 0 false rfl rfl rfl (op_out 5 (.pointer (some A)) rfl (.inl rfl) rfl)) ?_
      refine LinL.step (s := (Sp.recl 5 RecR RecR.stays (recs D2.l))) [(100, some 0), (99, some 1)] rfl (by kernel_rfl) (op_yes (reads := [(100, some 0)]) 12 99 1 false rfl rfl rfl (op_calls 26 #[(.tmp 100)] #[37] (fun σ => #[.pointer (some A)]) rfl rfl (fun _ _ => rfl) fun σ w' hx hg => ⟨by have h100 : σ.tmps.getD 100 undef = .pointer (some A) := hg.1; simp only [List.map_toArray, List.map_cons, List.map_nil, Act.eval, h100], (Read_any hlt2.out (hd.ext hx)).mono fun e w'' ⟨v, he, hx', hJ⟩ => ⟨v, he, hx', hJ.recs⟩⟩)) ?_
      refine LinL.step (s := (.val (v11))) [(11, none), (99, some 2)] rfl (by kernel_rfl) (op_yes (reads := [(11, none)]) 12 99 2 false rfl rfl rfl (op_out 11 (v11) rfl (.inl rfl) rfl)) ?_
      refine LinL.step (s := (.val (.bool true))) [(101, some 1), (102, some 0), (99, some 3)] rfl (by kernel_rfl) (op_yes (reads := [(101, some 1), (102, some 0)]) 12 99 3 false rfl rfl rfl (op_calls 14 #[(.tmp 101), (.tmp 102)] #[22, 22] (fun σ => #[σ.tmps.getD 101 undef, v11]) rfl rfl (fun _ _ => rfl) fun σ w' hx hg => ⟨by have h102 : σ.tmps.getD 102 undef = v11 := hg.2.1; simp only [List.map_toArray, List.map_cons, List.map_nil, Act.eval, h102], (Same_yes (show Recs 5 RecR w' (σ.tmps.getD 101 undef) (recs D2.l) from hg.1) (j11.ext RecR.stays hx)).mono fun e w'' h => ⟨_, h.1, h.2, rfl⟩⟩)) ?_
      refine LinL.step (s := (.val (.bool false))) [(103, some 0), (99, some 4)] rfl (by kernel_rfl) (op_yes (reads := [(103, some 0)]) 12 99 4 false rfl rfl rfl (op_runs rfl fun σ w' hx hg => ⟨(.bool false), by have h103 : σ.tmps.getD 103 undef = .bool true := hg.1; unfold Runs execOp; simp [Act.eval, h103, go_sem], rfl⟩)) ?_
      refine LinL.step (s := (.val (.bool false))) [(99, some 5), (104, some 0)] rfl (by kernel_rfl) (op_runs rfl fun σ w' hx hg => ⟨_, runs_pick_f (ρ := σ.eval) (w := w') (.tmp 99) (.const (.bool true)) (.tmp 104) rfl hg.1 hg.2.1, rfl⟩) ?_
      intro wN hxN
      simp only [Fin', Sp.recl, List.reverse_cons, List.reverse_nil, List.nil_append, List.cons_append, List.drop_zero, List.take_succ_cons, List.take_zero]
      intro q92 hq92 q101 hq101
      simp only [Act.put, List.setIfInBounds_toArray, List.set_cons_zero, List.set_cons_succ]
      go_wp2
      go_roundw
      case rel => exact ⟨k + 1, _, D2, vz, by go_num, by omega, hd.ext hxN, hO.extend hxN, f6.ext hxN, hS.ext hxN, n6, hlt2⟩
      case measure => simp [intOf]; omega
    by_cases hk1 : d.k = 1
    · have hc0 : (d.k == 0) = false := by rw [beq_eq_false_iff_ne]; omega
      have hc1 : (d.k == 1) = true := by rw [beq_iff_eq]; exact hk1
      obtain ⟨D2, hD2⟩ : ∃ D2, D2 = D.sync := ⟨_, rfl⟩
      have ho2 := hide_ (show D2.Ok from hD2 ▸ (ho.sync))
      have hlt2 := hide_ (show ∀ x ∈ D2.l, x < 256 from hD2 ▸ (hlt1.out))
      replace hD2 := hide_ hD2.symm
      clear hdok hlt1 hk0 hk1
      go_wp2_with ((first
        | (refine w_ridx0 Try.elA _ _ k ActR.stays rfl rfl rfl rfl hl hO.ext hlt ?_; rintro p row hrow hrl hr; rw [hlk.out] at hr; obtain ⟨⟨u, u2, rfl, hu, hu2⟩, hok⟩ := hr; have cu := hu.one'; have cu2 := hu2.one'; replace hok := hide_ hok)
        | (refine w_ploadN Try.stA _ rfl rfl rfl (hrow.ext hO.ext) rfl ?_)
        | (refine w_allocN Try.stA rfl rfl ?_; intro g8 w7 hg hx4 f8; have n8 : ¬ F g8 := (fun h => by have := hd.bd g8 h; omega); have n68 : g6 ≠ g8 := (by have := f6.lt; omega))
        | (refine w_astoreN Try.stA (us := [.int .i64 d.k, .int .i64 d.n, .int .i64 d.r.k, .int .i64 d.r.i, .int .i64 d.r.v, .int .i64 d.r.x, u, u2]) _ _ rfl rfl rfl rfl rfl f8 rfl rfl (by intro y hy; simp at hy; rcases hy with rfl | rfl | rfl | rfl | rfl | rfl | rfl | rfl <;> first | rfl | assumption) ?_; intro w8 hm8 f8'; replace f8 := f8'; have hx := hm8.after hx4 (fun i e => e ▸ hg); replace hd := hd.ext hx; replace hO := hO.extend hx; replace f6 := f6.ext hx; replace hS := hS.ext hx; clear f8' hm8 hx4 hg hx hrow)
        | (go_at_call 19; refine (Sync_any hd).mono ?_; rintro e wz ⟨rfl, hm, hd'⟩; replace hO := hO.upd hm.upd; replace hd := hd'; replace f6 := f6.mod hm n6; replace f8 := f8.mod hm n8; replace hS := hS.mod' hm (fun j hj e => hS.off j hj (.inl e)); clear hd' hm)
        | (go_at_call 20; refine (RSync_any (RD.made (D := D) hS ho)).mono ?_; rintro e wr2 ⟨val, rfl, hxr, hR⟩; rw [hD2.out] at hR; obtain ⟨⟨vz, rfl, hZ⟩, _⟩ := hR; replace hO := hO.extend hxr; replace hd := hd.ext hxr; replace f6 := f6.ext hxr; replace f8 := f8.ext hxr; have cz : vz.oneCell' = true := hZ.sl.one'; clear hxr hS)
        | (refine w_aload Try.stR _ rfl rfl rfl f6 rfl ?_)
        | (refine w_astore Try.stR (us := [vz, .int .i64 D2.s, .int .i64 D2.lim]) _ _ rfl rfl rfl rfl rfl f6 rfl rfl (List.forall_mem_cons.2 ⟨cz, List.forall_mem_cons.2 ⟨rfl, List.forall_mem_cons.2 ⟨rfl, by simp⟩⟩⟩) ?_; intro wS hmS f6'; replace f6 := f6'; clear f6'; replace hd := hd.mod hmS (fun j hj e => n6 (e ▸ hj)); replace hO := hO.other hmS (fun j e => e ▸ hn6); replace hS := hZ.mod' hmS (fun j hj e => hZ.off j hj (.inr e)); clear hmS hZ)
        | (go_at_call 13; refine (refScan_any hlt2.out (by have := ho2.out.len; omega) hS.sl).mono ?_; rintro e wq ⟨v11, rfl, hx, hJ⟩; have j11 := hJ.recs; replace hd := hd.ext hx; replace hO := hO.extend hx; replace f6 := f6.ext hx; replace hS := hS.ext hx; clear hJ hx)
        | (refine w_fieldN (i := 0) (off := 0) (by kernel_rfl) _ g8 rfl rfl rfl ?_)
        | (refine w_fieldN (i := 1) (off := 1) (by kernel_rfl) _ g8 rfl rfl rfl ?_)
        | (refine w_fieldN (i := 2) (off := 2) (by kernel_rfl) _ g8 rfl rfl rfl ?_)
        | (refine w_fieldN (i := 3) (off := 7) (by kernel_rfl) _ g8 rfl rfl rfl ?_)
        | (refine w_field Try.stR _ g6 _ rfl rfl rfl (by omega) ?_)
        | (refine w_fload _ rfl rfl rfl f8 rfl (agg_of (by kernel_rfl)) ?_)
        | (refine w_fload _ rfl rfl rfl f6 rfl (agg_of (by kernel_rfl)) ?_)
        | fail) <;> (try simp only [Act.put, List.setIfInBounds_toArray, List.set_cons_zero, List.set_cons_succ]))
      rw [hD2.out] at hd
      refine wp_region_phx (by kernel_rfl) ?_; intro wd hxd; replace hd := hd.ext hxd; replace hO := hO.extend hxd; replace f6 := f6.ext hxd; replace hS := hS.ext hxd; replace j11 := j11.ext RecR.stays hxd; have bz : Byt wd vz D2.l := hS.sl
      refine Ph.rest 0 19 (by kernel_rfl) ?_
      refine LinL.step (s := (.val (.int .i64 0))) [(9, none)] rfl (by kernel_rfl) (op_out 9 (.int .i64 0) rfl (.inl rfl) rfl) ?_
      refine LinL.step (s := (.val (.int .i64 0))) [(10, none)] rfl (by kernel_rfl) (op_out 10 (.int .i64 0) rfl (.inl rfl) rfl) ?_
      refine LinL.step (s := (.val (.bool false))) [(87, some 1), (88, some 0)] rfl (by kernel_rfl) (op_runs rfl fun σ w' hx hg => ⟨(.bool false), by have h87 : σ.tmps.getD 87 undef = .int .i64 0 := hg.1; have h88 : σ.tmps.getD 88 undef = .int .i64 0 := hg.2.1; unfold Runs execOp; simp [Act.eval, h87, h88, go_sem], rfl⟩) ?_
      refine LinL.step (s := (.val (.bool false))) [(89, some 0)] rfl (by kernel_rfl) (op_copy 89 0 (.val (.bool false)) rfl (.inl rfl) rfl) ?_
      refine LinL.step (s := (.val (.pointer (some A)))) [(5, none), (90, some 0)] rfl (by kernel_rfl) (op_yes (reads := [(5, none)]) 3 90 0 false rfl rfl rfl (op_out 5 (.pointer (some A)) rfl (.inl rfl) rfl)) ?_
      refine LinL.step (s := (.sl (u8s (D2.l)))) [(91, some 0), (90, some 1)] rfl (by kernel_rfl) (op_yes (reads := [(91, some 0)]) 3 90 1 false rfl rfl rfl (op_calls 25 #[(.tmp 91)] #[37] (fun σ => #[.pointer (some A)]) rfl rfl (fun _ _ => rfl) fun σ w' hx hg => ⟨by have h91 : σ.tmps.getD 91 undef = .pointer (some A) := hg.1; simp only [List.map_toArray, List.map_cons, List.map_nil, Act.eval, h91], (Bytes_any (hd.ext hx)).mono fun e w'' ⟨v, he, hx', hr⟩ => ⟨v, he, hx', hr.sl⟩⟩)) ?_
      refine LinL.step (s := (.val (.string (strN D2.l)))) [(92, some 0), (90, some 2)] rfl (by kernel_rfl) (op_yes (reads := [(92, some 0)]) 3 90 2 false rfl rfl rfl (op_runs rfl fun σ w' hx hg => ⟨_, runs_str (ρ := σ.eval) (w := w') (.tmp 92) rfl rfl hg.1, rfl⟩)) ?_
      refine LinL.step (s := (.val (.pointer (some ⟨g6, 0, none⟩)))) [(6, none), (90, some 3)] rfl (by kernel_rfl) (op_yes (reads := [(6, none)]) 3 90 3 false rfl rfl rfl (op_runs rfl fun σ w' hx hg => ⟨_, runs_field (ρ := σ.eval) (w := w') Try.stR (.tmp 6) g6 0 rfl hg.1 (by omega), rfl⟩)) ?_
      refine LinL.step (s := (.val (vz))) [(94, some 0), (90, some 4)] rfl (by kernel_rfl) (op_yes (reads := [(94, some 0)]) 3 90 4 false rfl rfl rfl (op_runs rfl fun σ w' hx hg => ⟨_, runs_fload (ρ := σ.eval) (w := w') (.tmp 94) rfl hg.1 (agg_of (by kernel_rfl) _) (f6.ext hx) rfl, rfl⟩)) ?_
      refine LinL.step (s := (.val (.string (strN D2.l)))) [(95, some 0), (90, some 5)] rfl (by kernel_rfl) (op_yes (reads := [(95, some 0)]) 3 90 5 false rfl rfl rfl (op_runs rfl fun σ w' hx hg => ⟨_, runs_str (ρ := σ.eval) (w := w') (.tmp 95) rfl hg.1 (bz.ext hx), rfl⟩)) ?_
      refine LinL.step (s := (.val (.bool false))) [(93, some 3), (96, some 0), (90, some 6)] rfl (by kernel_rfl) (op_yes (reads := [(93, some 3), (96, some 0)]) 3 90 6 false rfl rfl rfl (op_runs rfl fun σ w' hx hg => ⟨(.bool false), by have h93 : σ.tmps.getD 93 undef = .string (strN D2.l) := hg.1; have h96 : σ.tmps.getD 96 undef = .string (strN D2.l) := hg.2.1; unfold Runs execOp; simp [Act.eval, h93, h96, go_sem], rfl⟩)) ?_
      refine LinL.step (s := (.val (.bool false))) [(90, some 7), (97, some 0)] rfl (by kernel_rfl) (op_runs rfl fun σ w' hx hg => ⟨_, runs_pick_f (ρ := σ.eval) (w := w') (.tmp 90) (.const (.bool true)) (.tmp 97) rfl hg.1 hg.2.1, rfl⟩) ?_
      refine LinL.step (s := (.val (.bool false))) [(98, some 0)] rfl (by kernel_rfl) (op_copy 98 0 (.val (.bool false)) rfl (.inl rfl) rfl) ?_
      refine LinL.step (s := (.val (.pointer (some A)))) [(5, none), (99, some 0)] rfl (by kernel_rfl) (op_yes (reads := [(5, none)]) 12 99 0 false rfl rfl rfl (op_out 5 (.pointer (some A)) rfl (.inl rfl) rfl)) ?_
      refine LinL.step (s := (Sp.recl 5 RecR RecR.stays (recs D2.l))) [(100, some 0), (99, some 1)] rfl (by kernel_rfl) (op_yes (reads := [(100, some 0)]) 12 99 1 false rfl rfl rfl (op_calls 26 #[(.tmp 100)] #[37] (fun σ => #[.pointer (some A)]) rfl rfl (fun _ _ => rfl) fun σ w' hx hg => ⟨by have h100 : σ.tmps.getD 100 undef = .pointer (some A) := hg.1; simp only [List.map_toArray, List.map_cons, List.map_nil, Act.eval, h100], (Read_any hlt2.out (hd.ext hx)).mono fun e w'' ⟨v, he, hx', hJ⟩ => ⟨v, he, hx', hJ.recs⟩⟩)) ?_
      refine LinL.step (s := (.val (v11))) [(11, none), (99, some 2)] rfl (by kernel_rfl) (op_yes (reads := [(11, none)]) 12 99 2 false rfl rfl rfl (op_out 11 (v11) rfl (.inl rfl) rfl)) ?_
      refine LinL.step (s := (.val (.bool true))) [(101, some 1), (102, some 0), (99, some 3)] rfl (by kernel_rfl) (op_yes (reads := [(101, some 1), (102, some 0)]) 12 99 3 false rfl rfl rfl (op_calls 14 #[(.tmp 101), (.tmp 102)] #[22, 22] (fun σ => #[σ.tmps.getD 101 undef, v11]) rfl rfl (fun _ _ => rfl) fun σ w' hx hg => ⟨by have h102 : σ.tmps.getD 102 undef = v11 := hg.2.1; simp only [List.map_toArray, List.map_cons, List.map_nil, Act.eval, h102], (Same_yes (show Recs 5 RecR w' (σ.tmps.getD 101 undef) (recs D2.l) from hg.1) (j11.ext RecR.stays hx)).mono fun e w'' h => ⟨_, h.1, h.2, rfl⟩⟩)) ?_
      refine LinL.step (s := (.val (.bool false))) [(103, some 0), (99, some 4)] rfl (by kernel_rfl) (op_yes (reads := [(103, some 0)]) 12 99 4 false rfl rfl rfl (op_runs rfl fun σ w' hx hg => ⟨(.bool false), by have h103 : σ.tmps.getD 103 undef = .bool true := hg.1; unfold Runs execOp; simp [Act.eval, h103, go_sem], rfl⟩)) ?_
      refine LinL.step (s := (.val (.bool false))) [(99, some 5), (104, some 0)] rfl (by kernel_rfl) (op_runs rfl fun σ w' hx hg => ⟨_, runs_pick_f (ρ := σ.eval) (w := w') (.tmp 99) (.const (.bool true)) (.tmp 104) rfl hg.1 hg.2.1, rfl⟩) ?_
      intro wN hxN
      simp only [Fin', Sp.recl, List.reverse_cons, List.reverse_nil, List.nil_append, List.cons_append, List.drop_zero, List.take_succ_cons, List.take_zero]
      intro q92 hq92 q101 hq101
      simp only [Act.put, List.setIfInBounds_toArray, List.set_cons_zero, List.set_cons_succ]
      go_wp2
      go_roundw
      case rel => exact ⟨k + 1, _, D2, vz, by go_num, by omega, hd.ext hxN, hO.extend hxN, f6.ext hxN, hS.ext hxN, n6, hlt2⟩
      case measure => simp [intOf]; omega
    by_cases hk2 : d.k = 2
    · have hc0 : (d.k == 0) = false := by rw [beq_eq_false_iff_ne]; omega
      have hc1 : (d.k == 1) = false := by rw [beq_eq_false_iff_ne]; omega
      have hc2 : (d.k == 2) = true := by rw [beq_iff_eq]; exact hk2
      obtain ⟨D2, hD2⟩ : ∃ D2, D2 = D.crash d.n := ⟨_, rfl⟩
      have ho2 := hide_ (show D2.Ok from hD2 ▸ (ho.crash _))
      have hlt2 := hide_ (show ∀ x ∈ D2.l, x < 256 from hD2 ▸ (fun x hx => hlt1.out x (List.mem_of_mem_take hx)))
      replace hD2 := hide_ hD2.symm
      clear hdok hlt1 hk0 hk1 hk2
      go_wp2_with ((first
        | (refine w_ridx0 Try.elA _ _ k ActR.stays rfl rfl rfl rfl hl hO.ext hlt ?_; rintro p row hrow hrl hr; rw [hlk.out] at hr; obtain ⟨⟨u, u2, rfl, hu, hu2⟩, hok⟩ := hr; have cu := hu.one'; have cu2 := hu2.one'; replace hok := hide_ hok)
        | (refine w_ploadN Try.stA _ rfl rfl rfl (hrow.ext hO.ext) rfl ?_)
        | (refine w_allocN Try.stA rfl rfl ?_; intro g8 w7 hg hx4 f8; have n8 : ¬ F g8 := (fun h => by have := hd.bd g8 h; omega); have n68 : g6 ≠ g8 := (by have := f6.lt; omega))
        | (refine w_astoreN Try.stA (us := [.int .i64 d.k, .int .i64 d.n, .int .i64 d.r.k, .int .i64 d.r.i, .int .i64 d.r.v, .int .i64 d.r.x, u, u2]) _ _ rfl rfl rfl rfl rfl f8 rfl rfl (by intro y hy; simp at hy; rcases hy with rfl | rfl | rfl | rfl | rfl | rfl | rfl | rfl <;> first | rfl | assumption) ?_; intro w8 hm8 f8'; replace f8 := f8'; have hx := hm8.after hx4 (fun i e => e ▸ hg); replace hd := hd.ext hx; replace hO := hO.extend hx; replace f6 := f6.ext hx; replace hS := hS.ext hx; clear f8' hm8 hx4 hg hx hrow)
        | (go_at_call 21; refine (Crash_any _ hd).mono ?_; rintro e wz ⟨rfl, hm, hd'⟩; replace hO := hO.upd hm.upd; replace hd := hd'; replace f6 := f6.mod hm n6; replace f8 := f8.mod hm n8; replace hS := hS.mod' hm (fun j hj e => hS.off j hj (.inl e)); clear hd' hm)
        | (go_at_call 22; refine (RCrash_any _ (fun j hj => hj.elim (fun h => hd.bd j h) (fun h => by have := f6.lt; omega)) (RD.made (D := D) hS ho)).mono ?_; rintro e wr2 ⟨val, rfl, hxr, hR⟩; rw [hD2.out] at hR; obtain ⟨⟨vz, rfl, hZ⟩, _⟩ := hR; replace hO := hO.extend hxr; replace hd := hd.ext hxr; replace f6 := f6.ext hxr; replace f8 := f8.ext hxr; have cz : vz.oneCell' = true := hZ.sl.one'; clear hxr hS)
        | (refine w_aload Try.stR _ rfl rfl rfl f6 rfl ?_)
        | (refine w_astore Try.stR (us := [vz, .int .i64 D2.s, .int .i64 D2.lim]) _ _ rfl rfl rfl rfl rfl f6 rfl rfl (List.forall_mem_cons.2 ⟨cz, List.forall_mem_cons.2 ⟨rfl, List.forall_mem_cons.2 ⟨rfl, by simp⟩⟩⟩) ?_; intro wS hmS f6'; replace f6 := f6'; clear f6'; replace hd := hd.mod hmS (fun j hj e => n6 (e ▸ hj)); replace hO := hO.other hmS (fun j e => e ▸ hn6); replace hS := hZ.mod' hmS (fun j hj e => hZ.off j hj (.inr e)); clear hmS hZ)
        | (go_at_call 13; refine (refScan_any hlt2.out (by have := ho2.out.len; omega) hS.sl).mono ?_; rintro e wq ⟨v11, rfl, hx, hJ⟩; have j11 := hJ.recs; replace hd := hd.ext hx; replace hO := hO.extend hx; replace f6 := f6.ext hx; replace hS := hS.ext hx; clear hJ hx)
        | (refine w_fieldN (i := 0) (off := 0) (by kernel_rfl) _ g8 rfl rfl rfl ?_)
        | (refine w_fieldN (i := 1) (off := 1) (by kernel_rfl) _ g8 rfl rfl rfl ?_)
        | (refine w_fieldN (i := 2) (off := 2) (by kernel_rfl) _ g8 rfl rfl rfl ?_)
        | (refine w_fieldN (i := 3) (off := 7) (by kernel_rfl) _ g8 rfl rfl rfl ?_)
        | (refine w_field Try.stR _ g6 _ rfl rfl rfl (by omega) ?_)
        | (refine w_fload _ rfl rfl rfl f8 rfl (agg_of (by kernel_rfl)) ?_)
        | (refine w_fload _ rfl rfl rfl f6 rfl (agg_of (by kernel_rfl)) ?_)
        | fail) <;> (try simp only [Act.put, List.setIfInBounds_toArray, List.set_cons_zero, List.set_cons_succ]))
      rw [hD2.out] at hd
      refine wp_region_phx (by kernel_rfl) ?_; intro wd hxd; replace hd := hd.ext hxd; replace hO := hO.extend hxd; replace f6 := f6.ext hxd; replace hS := hS.ext hxd; replace j11 := j11.ext RecR.stays hxd; have bz : Byt wd vz D2.l := hS.sl
      refine Ph.rest 0 19 (by kernel_rfl) ?_
      refine LinL.step (s := (.val (.int .i64 0))) [(9, none)] rfl (by kernel_rfl) (op_out 9 (.int .i64 0) rfl (.inl rfl) rfl) ?_
      refine LinL.step (s := (.val (.int .i64 0))) [(10, none)] rfl (by kernel_rfl) (op_out 10 (.int .i64 0) rfl (.inl rfl) rfl) ?_
      refine LinL.step (s := (.val (.bool false))) [(87, some 1), (88, some 0)] rfl (by kernel_rfl) (op_runs rfl fun σ w' hx hg => ⟨(.bool false), by have h87 : σ.tmps.getD 87 undef = .int .i64 0 := hg.1; have h88 : σ.tmps.getD 88 undef = .int .i64 0 := hg.2.1; unfold Runs execOp; simp [Act.eval, h87, h88, go_sem], rfl⟩) ?_
      refine LinL.step (s := (.val (.bool false))) [(89, some 0)] rfl (by kernel_rfl) (op_copy 89 0 (.val (.bool false)) rfl (.inl rfl) rfl) ?_
      refine LinL.step (s := (.val (.pointer (some A)))) [(5, none), (90, some 0)] rfl (by kernel_rfl) (op_yes (reads := [(5, none)]) 3 90 0 false rfl rfl rfl (op_out 5 (.pointer (some A)) rfl (.inl rfl) rfl)) ?_
      refine LinL.step (s := (.sl (u8s (D2.l)))) [(91, some 0), (90, some 1)] rfl (by kernel_rfl) (op_yes (reads := [(91, some 0)]) 3 90 1 false rfl rfl rfl (op_calls 25 #[(.tmp 91)] #[37] (fun σ => #[.pointer (some A)]) rfl rfl (fun _ _ => rfl) fun σ w' hx hg => ⟨by have h91 : σ.tmps.getD 91 undef = .pointer (some A) := hg.1; simp only [List.map_toArray, List.map_cons, List.map_nil, Act.eval, h91], (Bytes_any (hd.ext hx)).mono fun e w'' ⟨v, he, hx', hr⟩ => ⟨v, he, hx', hr.sl⟩⟩)) ?_
      refine LinL.step (s := (.val (.string (strN D2.l)))) [(92, some 0), (90, some 2)] rfl (by kernel_rfl) (op_yes (reads := [(92, some 0)]) 3 90 2 false rfl rfl rfl (op_runs rfl fun σ w' hx hg => ⟨_, runs_str (ρ := σ.eval) (w := w') (.tmp 92) rfl rfl hg.1, rfl⟩)) ?_
      refine LinL.step (s := (.val (.pointer (some ⟨g6, 0, none⟩)))) [(6, none), (90, some 3)] rfl (by kernel_rfl) (op_yes (reads := [(6, none)]) 3 90 3 false rfl rfl rfl (op_runs rfl fun σ w' hx hg => ⟨_, runs_field (ρ := σ.eval) (w := w') Try.stR (.tmp 6) g6 0 rfl hg.1 (by omega), rfl⟩)) ?_
      refine LinL.step (s := (.val (vz))) [(94, some 0), (90, some 4)] rfl (by kernel_rfl) (op_yes (reads := [(94, some 0)]) 3 90 4 false rfl rfl rfl (op_runs rfl fun σ w' hx hg => ⟨_, runs_fload (ρ := σ.eval) (w := w') (.tmp 94) rfl hg.1 (agg_of (by kernel_rfl) _) (f6.ext hx) rfl, rfl⟩)) ?_
      refine LinL.step (s := (.val (.string (strN D2.l)))) [(95, some 0), (90, some 5)] rfl (by kernel_rfl) (op_yes (reads := [(95, some 0)]) 3 90 5 false rfl rfl rfl (op_runs rfl fun σ w' hx hg => ⟨_, runs_str (ρ := σ.eval) (w := w') (.tmp 95) rfl hg.1 (bz.ext hx), rfl⟩)) ?_
      refine LinL.step (s := (.val (.bool false))) [(93, some 3), (96, some 0), (90, some 6)] rfl (by kernel_rfl) (op_yes (reads := [(93, some 3), (96, some 0)]) 3 90 6 false rfl rfl rfl (op_runs rfl fun σ w' hx hg => ⟨(.bool false), by have h93 : σ.tmps.getD 93 undef = .string (strN D2.l) := hg.1; have h96 : σ.tmps.getD 96 undef = .string (strN D2.l) := hg.2.1; unfold Runs execOp; simp [Act.eval, h93, h96, go_sem], rfl⟩)) ?_
      refine LinL.step (s := (.val (.bool false))) [(90, some 7), (97, some 0)] rfl (by kernel_rfl) (op_runs rfl fun σ w' hx hg => ⟨_, runs_pick_f (ρ := σ.eval) (w := w') (.tmp 90) (.const (.bool true)) (.tmp 97) rfl hg.1 hg.2.1, rfl⟩) ?_
      refine LinL.step (s := (.val (.bool false))) [(98, some 0)] rfl (by kernel_rfl) (op_copy 98 0 (.val (.bool false)) rfl (.inl rfl) rfl) ?_
      refine LinL.step (s := (.val (.pointer (some A)))) [(5, none), (99, some 0)] rfl (by kernel_rfl) (op_yes (reads := [(5, none)]) 12 99 0 false rfl rfl rfl (op_out 5 (.pointer (some A)) rfl (.inl rfl) rfl)) ?_
      refine LinL.step (s := (Sp.recl 5 RecR RecR.stays (recs D2.l))) [(100, some 0), (99, some 1)] rfl (by kernel_rfl) (op_yes (reads := [(100, some 0)]) 12 99 1 false rfl rfl rfl (op_calls 26 #[(.tmp 100)] #[37] (fun σ => #[.pointer (some A)]) rfl rfl (fun _ _ => rfl) fun σ w' hx hg => ⟨by have h100 : σ.tmps.getD 100 undef = .pointer (some A) := hg.1; simp only [List.map_toArray, List.map_cons, List.map_nil, Act.eval, h100], (Read_any hlt2.out (hd.ext hx)).mono fun e w'' ⟨v, he, hx', hJ⟩ => ⟨v, he, hx', hJ.recs⟩⟩)) ?_
      refine LinL.step (s := (.val (v11))) [(11, none), (99, some 2)] rfl (by kernel_rfl) (op_yes (reads := [(11, none)]) 12 99 2 false rfl rfl rfl (op_out 11 (v11) rfl (.inl rfl) rfl)) ?_
      refine LinL.step (s := (.val (.bool true))) [(101, some 1), (102, some 0), (99, some 3)] rfl (by kernel_rfl) (op_yes (reads := [(101, some 1), (102, some 0)]) 12 99 3 false rfl rfl rfl (op_calls 14 #[(.tmp 101), (.tmp 102)] #[22, 22] (fun σ => #[σ.tmps.getD 101 undef, v11]) rfl rfl (fun _ _ => rfl) fun σ w' hx hg => ⟨by have h102 : σ.tmps.getD 102 undef = v11 := hg.2.1; simp only [List.map_toArray, List.map_cons, List.map_nil, Act.eval, h102], (Same_yes (show Recs 5 RecR w' (σ.tmps.getD 101 undef) (recs D2.l) from hg.1) (j11.ext RecR.stays hx)).mono fun e w'' h => ⟨_, h.1, h.2, rfl⟩⟩)) ?_
      refine LinL.step (s := (.val (.bool false))) [(103, some 0), (99, some 4)] rfl (by kernel_rfl) (op_yes (reads := [(103, some 0)]) 12 99 4 false rfl rfl rfl (op_runs rfl fun σ w' hx hg => ⟨(.bool false), by have h103 : σ.tmps.getD 103 undef = .bool true := hg.1; unfold Runs execOp; simp [Act.eval, h103, go_sem], rfl⟩)) ?_
      refine LinL.step (s := (.val (.bool false))) [(99, some 5), (104, some 0)] rfl (by kernel_rfl) (op_runs rfl fun σ w' hx hg => ⟨_, runs_pick_f (ρ := σ.eval) (w := w') (.tmp 99) (.const (.bool true)) (.tmp 104) rfl hg.1 hg.2.1, rfl⟩) ?_
      intro wN hxN
      simp only [Fin', Sp.recl, List.reverse_cons, List.reverse_nil, List.nil_append, List.cons_append, List.drop_zero, List.take_succ_cons, List.take_zero]
      intro q92 hq92 q101 hq101
      simp only [Act.put, List.setIfInBounds_toArray, List.set_cons_zero, List.set_cons_succ]
      go_wp2
      go_roundw
      case rel => exact ⟨k + 1, _, D2, vz, by go_num, by omega, hd.ext hxN, hO.extend hxN, f6.ext hxN, hS.ext hxN, n6, hlt2⟩
      case measure => simp [intOf]; omega
    by_cases hk3 : d.k = 3
    · have hc0 : (d.k == 0) = false := by rw [beq_eq_false_iff_ne]; omega
      have hc1 : (d.k == 1) = false := by rw [beq_eq_false_iff_ne]; omega
      have hc2 : (d.k == 2) = false := by rw [beq_eq_false_iff_ne]; omega
      have hc3 : (d.k == 3) = true := by rw [beq_iff_eq]; exact hk3
      obtain ⟨D2, hD2⟩ : ∃ D2, D2 = D.app d.data := ⟨_, rfl⟩
      have ho2 := hide_ (show D2.Ok from hD2 ▸ (ho.app _))
      have hlt2 := hide_ (show ∀ x ∈ D2.l, x < 256 from hD2 ▸ (app_lt hlt1.out hdok.b))
      replace hD2 := hide_ hD2.symm
      clear hdok hlt1 hk0 hk1 hk2 hk3
      go_wp2_with ((first
        | (refine w_ridx0 Try.elA _ _ k ActR.stays rfl rfl rfl rfl hl hO.ext hlt ?_; rintro p row hrow hrl hr; rw [hlk.out] at hr; obtain ⟨⟨u, u2, rfl, hu, hu2⟩, hok⟩ := hr; have cu := hu.one'; have cu2 := hu2.one'; replace hok := hide_ hok)
        | (refine w_ploadN Try.stA _ rfl rfl rfl (hrow.ext hO.ext) rfl ?_)
        | (refine w_allocN Try.stA rfl rfl ?_; intro g8 w7 hg hx4 f8; have n8 : ¬ F g8 := (fun h => by have := hd.bd g8 h; omega); have n68 : g6 ≠ g8 := (by have := f6.lt; omega))
        | (refine w_astoreN Try.stA (us := [.int .i64 d.k, .int .i64 d.n, .int .i64 d.r.k, .int .i64 d.r.i, .int .i64 d.r.v, .int .i64 d.r.x, u, u2]) _ _ rfl rfl rfl rfl rfl f8 rfl rfl (by intro y hy; simp at hy; rcases hy with rfl | rfl | rfl | rfl | rfl | rfl | rfl | rfl <;> first | rfl | assumption) ?_; intro w8 hm8 f8'; replace f8 := f8'; have hx := hm8.after hx4 (fun i e => e ▸ hg); replace hd := hd.ext hx; replace hO := hO.extend hx; replace f6 := f6.ext hx; replace hS := hS.ext hx; clear f8' hm8 hx4 hg hx hrow)
        | (refine w_bempty rfl rfl ?_; intro v1 wn B hB1 hBl hxn o1; have hB8 : g8 < B := Nat.lt_of_lt_of_le f8.lt hB1; replace f8 := f8.ext hxn)
        | (refine appb _ _ rfl rfl rfl rfl o1 ((hu2.ext hO.ext).ext hxn) (by have := hok.out.l; simp; omega) hBl ?_; intro v2 wa o2 hba hga; rw [List.nil_append] at o2; have hx := hxn.trans' (hba.mono hB1); have b2 := o2.byt; replace hd := hd.ext hx; replace hO := hO.extend hx; replace f6 := f6.ext hx; replace f8 := f8.below hba hB8; replace hS := hS.ext hx; clear o1 hba hga hxn hB1 hBl o2 hx hB8)
        | (go_at_call 23; refine (Append_any hd b2).mono ?_; clear b2; rintro e wz ⟨F', rfl, hup, hd'⟩; have n8' : ¬ F' g8 := (fun h => (hup.sub g8 h).elim n8 (fun e => by have := f8.lt; omega)); have n6' : ¬ F' g6 := (fun h => (hup.sub g6 h).elim n6 (fun e => by have := f6.lt; omega)); replace f6 := f6.mod hup.mod n6; replace f8 := f8.mod hup.mod n8; replace hS := hS.updU hup; replace hO := hO.upd hup; replace hd := hd'; replace n8 := n8'; replace n6 := n6'; clear hup hd' n6' n8')
        | (go_at_call 24; refine (RAppend_any (l := d.data) (fun j hj => hj.elim (fun h => hd.bd j h) (fun h => by have := f6.lt; omega)) (hu2.ext hO.ext) (RD.made (D := D) hS ho)).mono ?_; rintro e wr2 ⟨val, rfl, hxr, hR⟩; rw [hD2.out] at hR; obtain ⟨⟨vz, rfl, hZ⟩, _⟩ := hR; replace hO := hO.extend hxr; replace hd := hd.ext hxr; replace f6 := f6.ext hxr; replace f8 := f8.ext hxr; have cz : vz.oneCell' = true := hZ.sl.one'; clear hxr hS)
        | (refine w_aload Try.stR _ rfl rfl rfl f6 rfl ?_)
        | (refine w_astore Try.stR (us := [vz, .int .i64 D2.s, .int .i64 D2.lim]) _ _ rfl rfl rfl rfl rfl f6 rfl rfl (List.forall_mem_cons.2 ⟨cz, List.forall_mem_cons.2 ⟨rfl, List.forall_mem_cons.2 ⟨rfl, by simp⟩⟩⟩) ?_; intro wS hmS f6'; replace f6 := f6'; clear f6'; replace hd := hd.mod hmS (fun j hj e => n6 (e ▸ hj)); replace hO := hO.other hmS (fun j e => e ▸ hn6); replace hS := hZ.mod' hmS (fun j hj e => hZ.off j hj (.inr e)); clear hmS hZ)
        | (go_at_call 13; refine (refScan_any hlt2.out (by have := ho2.out.len; omega) hS.sl).mono ?_; rintro e wq ⟨v11, rfl, hx, hJ⟩; have j11 := hJ.recs; replace hd := hd.ext hx; replace hO := hO.extend hx; replace f6 := f6.ext hx; replace hS := hS.ext hx; clear hJ hx)
        | (refine w_fieldN (i := 0) (off := 0) (by kernel_rfl) _ g8 rfl rfl rfl ?_)
        | (refine w_fieldN (i := 1) (off := 1) (by kernel_rfl) _ g8 rfl rfl rfl ?_)
        | (refine w_fieldN (i := 2) (off := 2) (by kernel_rfl) _ g8 rfl rfl rfl ?_)
        | (refine w_fieldN (i := 3) (off := 7) (by kernel_rfl) _ g8 rfl rfl rfl ?_)
        | (refine w_field Try.stR _ g6 _ rfl rfl rfl (by omega) ?_)
        | (refine w_fload _ rfl rfl rfl f8 rfl (agg_of (by kernel_rfl)) ?_)
        | (refine w_fload _ rfl rfl rfl f6 rfl (agg_of (by kernel_rfl)) ?_)
        | fail) <;> (try simp only [Act.put, List.setIfInBounds_toArray, List.set_cons_zero, List.set_cons_succ]))
      rw [hD2.out] at hd
      refine wp_region_phx (by kernel_rfl) ?_; intro wd hxd; replace hd := hd.ext hxd; replace hO := hO.extend hxd; replace f6 := f6.ext hxd; replace hS := hS.ext hxd; replace j11 := j11.ext RecR.stays hxd; have bz : Byt wd vz D2.l := hS.sl
      refine Ph.rest 0 19 (by kernel_rfl) ?_
      refine LinL.step (s := (.val (.int .i64 (D.err d.data : Nat)))) [(9, none)] rfl (by kernel_rfl) (op_out 9 (.int .i64 (D.err d.data : Nat)) rfl (.inl rfl) rfl) ?_
      refine LinL.step (s := (.val (.int .i64 (D.err d.data : Nat)))) [(10, none)] rfl (by kernel_rfl) (op_out 10 (.int .i64 (D.err d.data : Nat)) rfl (.inl rfl) rfl) ?_
      refine LinL.step (s := (.val (.bool false))) [(87, some 1), (88, some 0)] rfl (by kernel_rfl) (op_runs rfl fun σ w' hx hg => ⟨(.bool false), by have h87 : σ.tmps.getD 87 undef = .int .i64 (D.err d.data : Nat) := hg.1; have h88 : σ.tmps.getD 88 undef = .int .i64 (D.err d.data : Nat) := hg.2.1; unfold Runs execOp; simp [Act.eval, h87, h88, go_sem], rfl⟩) ?_
      refine LinL.step (s := (.val (.bool false))) [(89, some 0)] rfl (by kernel_rfl) (op_copy 89 0 (.val (.bool false)) rfl (.inl rfl) rfl) ?_
      refine LinL.step (s := (.val (.pointer (some A)))) [(5, none), (90, some 0)] rfl (by kernel_rfl) (op_yes (reads := [(5, none)]) 3 90 0 false rfl rfl rfl (op_out 5 (.pointer (some A)) rfl (.inl rfl) rfl)) ?_
      refine LinL.step (s := (.sl (u8s (D2.l)))) [(91, some 0), (90, some 1)] rfl (by kernel_rfl) (op_yes (reads := [(91, some 0)]) 3 90 1 false rfl rfl rfl (op_calls 25 #[(.tmp 91)] #[37] (fun σ => #[.pointer (some A)]) rfl rfl (fun _ _ => rfl) fun σ w' hx hg => ⟨by have h91 : σ.tmps.getD 91 undef = .pointer (some A) := hg.1; simp only [List.map_toArray, List.map_cons, List.map_nil, Act.eval, h91], (Bytes_any (hd.ext hx)).mono fun e w'' ⟨v, he, hx', hr⟩ => ⟨v, he, hx', hr.sl⟩⟩)) ?_
      refine LinL.step (s := (.val (.string (strN D2.l)))) [(92, some 0), (90, some 2)] rfl (by kernel_rfl) (op_yes (reads := [(92, some 0)]) 3 90 2 false rfl rfl rfl (op_runs rfl fun σ w' hx hg => ⟨_, runs_str (ρ := σ.eval) (w := w') (.tmp 92) rfl rfl hg.1, rfl⟩)) ?_
      refine LinL.step (s := (.val (.pointer (some ⟨g6, 0, none⟩)))) [(6, none), (90, some 3)] rfl (by kernel_rfl) (op_yes (reads := [(6, none)]) 3 90 3 false rfl rfl rfl (op_runs rfl fun σ w' hx hg => ⟨_, runs_field (ρ := σ.eval) (w := w') Try.stR (.tmp 6) g6 0 rfl hg.1 (by omega), rfl⟩)) ?_
      refine LinL.step (s := (.val (vz))) [(94, some 0), (90, some 4)] rfl (by kernel_rfl) (op_yes (reads := [(94, some 0)]) 3 90 4 false rfl rfl rfl (op_runs rfl fun σ w' hx hg => ⟨_, runs_fload (ρ := σ.eval) (w := w') (.tmp 94) rfl hg.1 (agg_of (by kernel_rfl) _) (f6.ext hx) rfl, rfl⟩)) ?_
      refine LinL.step (s := (.val (.string (strN D2.l)))) [(95, some 0), (90, some 5)] rfl (by kernel_rfl) (op_yes (reads := [(95, some 0)]) 3 90 5 false rfl rfl rfl (op_runs rfl fun σ w' hx hg => ⟨_, runs_str (ρ := σ.eval) (w := w') (.tmp 95) rfl hg.1 (bz.ext hx), rfl⟩)) ?_
      refine LinL.step (s := (.val (.bool false))) [(93, some 3), (96, some 0), (90, some 6)] rfl (by kernel_rfl) (op_yes (reads := [(93, some 3), (96, some 0)]) 3 90 6 false rfl rfl rfl (op_runs rfl fun σ w' hx hg => ⟨(.bool false), by have h93 : σ.tmps.getD 93 undef = .string (strN D2.l) := hg.1; have h96 : σ.tmps.getD 96 undef = .string (strN D2.l) := hg.2.1; unfold Runs execOp; simp [Act.eval, h93, h96, go_sem], rfl⟩)) ?_
      refine LinL.step (s := (.val (.bool false))) [(90, some 7), (97, some 0)] rfl (by kernel_rfl) (op_runs rfl fun σ w' hx hg => ⟨_, runs_pick_f (ρ := σ.eval) (w := w') (.tmp 90) (.const (.bool true)) (.tmp 97) rfl hg.1 hg.2.1, rfl⟩) ?_
      refine LinL.step (s := (.val (.bool false))) [(98, some 0)] rfl (by kernel_rfl) (op_copy 98 0 (.val (.bool false)) rfl (.inl rfl) rfl) ?_
      refine LinL.step (s := (.val (.pointer (some A)))) [(5, none), (99, some 0)] rfl (by kernel_rfl) (op_yes (reads := [(5, none)]) 12 99 0 false rfl rfl rfl (op_out 5 (.pointer (some A)) rfl (.inl rfl) rfl)) ?_
      refine LinL.step (s := (Sp.recl 5 RecR RecR.stays (recs D2.l))) [(100, some 0), (99, some 1)] rfl (by kernel_rfl) (op_yes (reads := [(100, some 0)]) 12 99 1 false rfl rfl rfl (op_calls 26 #[(.tmp 100)] #[37] (fun σ => #[.pointer (some A)]) rfl rfl (fun _ _ => rfl) fun σ w' hx hg => ⟨by have h100 : σ.tmps.getD 100 undef = .pointer (some A) := hg.1; simp only [List.map_toArray, List.map_cons, List.map_nil, Act.eval, h100], (Read_any hlt2.out (hd.ext hx)).mono fun e w'' ⟨v, he, hx', hJ⟩ => ⟨v, he, hx', hJ.recs⟩⟩)) ?_
      refine LinL.step (s := (.val (v11))) [(11, none), (99, some 2)] rfl (by kernel_rfl) (op_yes (reads := [(11, none)]) 12 99 2 false rfl rfl rfl (op_out 11 (v11) rfl (.inl rfl) rfl)) ?_
      refine LinL.step (s := (.val (.bool true))) [(101, some 1), (102, some 0), (99, some 3)] rfl (by kernel_rfl) (op_yes (reads := [(101, some 1), (102, some 0)]) 12 99 3 false rfl rfl rfl (op_calls 14 #[(.tmp 101), (.tmp 102)] #[22, 22] (fun σ => #[σ.tmps.getD 101 undef, v11]) rfl rfl (fun _ _ => rfl) fun σ w' hx hg => ⟨by have h102 : σ.tmps.getD 102 undef = v11 := hg.2.1; simp only [List.map_toArray, List.map_cons, List.map_nil, Act.eval, h102], (Same_yes (show Recs 5 RecR w' (σ.tmps.getD 101 undef) (recs D2.l) from hg.1) (j11.ext RecR.stays hx)).mono fun e w'' h => ⟨_, h.1, h.2, rfl⟩⟩)) ?_
      refine LinL.step (s := (.val (.bool false))) [(103, some 0), (99, some 4)] rfl (by kernel_rfl) (op_yes (reads := [(103, some 0)]) 12 99 4 false rfl rfl rfl (op_runs rfl fun σ w' hx hg => ⟨(.bool false), by have h103 : σ.tmps.getD 103 undef = .bool true := hg.1; unfold Runs execOp; simp [Act.eval, h103, go_sem], rfl⟩)) ?_
      refine LinL.step (s := (.val (.bool false))) [(99, some 5), (104, some 0)] rfl (by kernel_rfl) (op_runs rfl fun σ w' hx hg => ⟨_, runs_pick_f (ρ := σ.eval) (w := w') (.tmp 99) (.const (.bool true)) (.tmp 104) rfl hg.1 hg.2.1, rfl⟩) ?_
      intro wN hxN
      simp only [Fin', Sp.recl, List.reverse_cons, List.reverse_nil, List.nil_append, List.cons_append, List.drop_zero, List.take_succ_cons, List.take_zero]
      intro q92 hq92 q101 hq101
      simp only [Act.put, List.setIfInBounds_toArray, List.set_cons_zero, List.set_cons_succ]
      go_wp2
      go_roundw
      case rel => exact ⟨k + 1, _, D2, vz, by go_num, by omega, hd.ext hxN, hO.extend hxN, f6.ext hxN, hS.ext hxN, n6, hlt2⟩
      case measure => simp [intOf]; omega
    have hc0 : (d.k == 0) = false := by rw [beq_eq_false_iff_ne]; omega
    have hc1 : (d.k == 1) = false := by rw [beq_eq_false_iff_ne]; omega
    have hc2 : (d.k == 2) = false := by rw [beq_eq_false_iff_ne]; omega
    have hc3 : (d.k == 3) = false := by rw [beq_eq_false_iff_ne]; omega
    obtain ⟨D2, hD2⟩ : ∃ D2, D2 = D := ⟨_, rfl⟩
    have ho2 := hide_ (show D2.Ok from hD2 ▸ (ho))
    have hlt2 := hide_ (show ∀ x ∈ D2.l, x < 256 from hD2 ▸ (hlt1.out))
    replace hD2 := hide_ hD2.symm
    clear hdok hlt1 hk0 hk1 hk2 hk3
    obtain ⟨vz, hvz⟩ : ∃ vz, vz = vw := ⟨_, rfl⟩
    rw [← hvz] at f6 hS cw
    clear hvz
    have e2 := hD2.out
    rw [e2] at hd f6 hS
    clear e2
    go_wp2_with ((first
      | (refine w_ridx0 Try.elA _ _ k ActR.stays rfl rfl rfl rfl hl hO.ext hlt ?_; rintro p row hrow hrl hr; rw [hlk.out] at hr; obtain ⟨⟨u, u2, rfl, hu, hu2⟩, hok⟩ := hr; have cu := hu.one'; have cu2 := hu2.one'; replace hok := hide_ hok)
      | (refine w_ploadN Try.stA _ rfl rfl rfl (hrow.ext hO.ext) rfl ?_)
      | (refine w_allocN Try.stA rfl rfl ?_; intro g8 w7 hg hx4 f8; have n8 : ¬ F g8 := (fun h => by have := hd.bd g8 h; omega); have n68 : g6 ≠ g8 := (by have := f6.lt; omega))
      | (refine w_astoreN Try.stA (us := [.int .i64 d.k, .int .i64 d.n, .int .i64 d.r.k, .int .i64 d.r.i, .int .i64 d.r.v, .int .i64 d.r.x, u, u2]) _ _ rfl rfl rfl rfl rfl f8 rfl rfl (by intro y hy; simp at hy; rcases hy with rfl | rfl | rfl | rfl | rfl | rfl | rfl | rfl <;> first | rfl | assumption) ?_; intro w8 hm8 f8'; replace f8 := f8'; have hx := hm8.after hx4 (fun i e => e ▸ hg); replace hd := hd.ext hx; replace hO := hO.extend hx; replace f6 := f6.ext hx; replace hS := hS.ext hx; clear f8' hm8 hx4 hg hx hrow)
      | (go_at_call 13; refine (refScan_any hlt2.out (by have := ho2.out.len; omega) hS.sl).mono ?_; rintro e wq ⟨v11, rfl, hx, hJ⟩; have j11 := hJ.recs; replace hd := hd.ext hx; replace hO := hO.extend hx; replace f6 := f6.ext hx; replace hS := hS.ext hx; clear hJ hx)
      | (refine w_fieldN (i := 0) (off := 0) (by kernel_rfl) _ g8 rfl rfl rfl ?_)
      | (refine w_fieldN (i := 1) (off := 1) (by kernel_rfl) _ g8 rfl rfl rfl ?_)
      | (refine w_fieldN (i := 2) (off := 2) (by kernel_rfl) _ g8 rfl rfl rfl ?_)
      | (refine w_fieldN (i := 3) (off := 7) (by kernel_rfl) _ g8 rfl rfl rfl ?_)
      | (refine w_field Try.stR _ g6 _ rfl rfl rfl (by omega) ?_)
      | (refine w_fload _ rfl rfl rfl f8 rfl (agg_of (by kernel_rfl)) ?_)
      | (refine w_fload _ rfl rfl rfl f6 rfl (agg_of (by kernel_rfl)) ?_)
      | fail) <;> (try simp only [Act.put, List.setIfInBounds_toArray, List.set_cons_zero, List.set_cons_succ]))
    refine wp_region_phx (by kernel_rfl) ?_; intro wd hxd; replace hd := hd.ext hxd; replace hO := hO.extend hxd; replace f6 := f6.ext hxd; replace hS := hS.ext hxd; replace j11 := j11.ext RecR.stays hxd; have bz : Byt wd vz D2.l := hS.sl
    refine Ph.rest 0 19 (by kernel_rfl) ?_
    refine LinL.step (s := (.val (.int .i64 0))) [(9, none)] rfl (by kernel_rfl) (op_out 9 (.int .i64 0) rfl (.inl rfl) rfl) ?_
    refine LinL.step (s := (.val (.int .i64 0))) [(10, none)] rfl (by kernel_rfl) (op_out 10 (.int .i64 0) rfl (.inl rfl) rfl) ?_
    refine LinL.step (s := (.val (.bool false))) [(87, some 1), (88, some 0)] rfl (by kernel_rfl) (op_runs rfl fun σ w' hx hg => ⟨(.bool false), by have h87 : σ.tmps.getD 87 undef = .int .i64 0 := hg.1; have h88 : σ.tmps.getD 88 undef = .int .i64 0 := hg.2.1; unfold Runs execOp; simp [Act.eval, h87, h88, go_sem], rfl⟩) ?_
    refine LinL.step (s := (.val (.bool false))) [(89, some 0)] rfl (by kernel_rfl) (op_copy 89 0 (.val (.bool false)) rfl (.inl rfl) rfl) ?_
    refine LinL.step (s := (.val (.pointer (some A)))) [(5, none), (90, some 0)] rfl (by kernel_rfl) (op_yes (reads := [(5, none)]) 3 90 0 false rfl rfl rfl (op_out 5 (.pointer (some A)) rfl (.inl rfl) rfl)) ?_
    refine LinL.step (s := (.sl (u8s (D2.l)))) [(91, some 0), (90, some 1)] rfl (by kernel_rfl) (op_yes (reads := [(91, some 0)]) 3 90 1 false rfl rfl rfl (op_calls 25 #[(.tmp 91)] #[37] (fun σ => #[.pointer (some A)]) rfl rfl (fun _ _ => rfl) fun σ w' hx hg => ⟨by have h91 : σ.tmps.getD 91 undef = .pointer (some A) := hg.1; simp only [List.map_toArray, List.map_cons, List.map_nil, Act.eval, h91], (Bytes_any (hd.ext hx)).mono fun e w'' ⟨v, he, hx', hr⟩ => ⟨v, he, hx', hr.sl⟩⟩)) ?_
    refine LinL.step (s := (.val (.string (strN D2.l)))) [(92, some 0), (90, some 2)] rfl (by kernel_rfl) (op_yes (reads := [(92, some 0)]) 3 90 2 false rfl rfl rfl (op_runs rfl fun σ w' hx hg => ⟨_, runs_str (ρ := σ.eval) (w := w') (.tmp 92) rfl rfl hg.1, rfl⟩)) ?_
    refine LinL.step (s := (.val (.pointer (some ⟨g6, 0, none⟩)))) [(6, none), (90, some 3)] rfl (by kernel_rfl) (op_yes (reads := [(6, none)]) 3 90 3 false rfl rfl rfl (op_runs rfl fun σ w' hx hg => ⟨_, runs_field (ρ := σ.eval) (w := w') Try.stR (.tmp 6) g6 0 rfl hg.1 (by omega), rfl⟩)) ?_
    refine LinL.step (s := (.val (vz))) [(94, some 0), (90, some 4)] rfl (by kernel_rfl) (op_yes (reads := [(94, some 0)]) 3 90 4 false rfl rfl rfl (op_runs rfl fun σ w' hx hg => ⟨_, runs_fload (ρ := σ.eval) (w := w') (.tmp 94) rfl hg.1 (agg_of (by kernel_rfl) _) (f6.ext hx) rfl, rfl⟩)) ?_
    refine LinL.step (s := (.val (.string (strN D2.l)))) [(95, some 0), (90, some 5)] rfl (by kernel_rfl) (op_yes (reads := [(95, some 0)]) 3 90 5 false rfl rfl rfl (op_runs rfl fun σ w' hx hg => ⟨_, runs_str (ρ := σ.eval) (w := w') (.tmp 95) rfl hg.1 (bz.ext hx), rfl⟩)) ?_
    refine LinL.step (s := (.val (.bool false))) [(93, some 3), (96, some 0), (90, some 6)] rfl (by kernel_rfl) (op_yes (reads := [(93, some 3), (96, some 0)]) 3 90 6 false rfl rfl rfl (op_runs rfl fun σ w' hx hg => ⟨(.bool false), by have h93 : σ.tmps.getD 93 undef = .string (strN D2.l) := hg.1; have h96 : σ.tmps.getD 96 undef = .string (strN D2.l) := hg.2.1; unfold Runs execOp; simp [Act.eval, h93, h96, go_sem], rfl⟩)) ?_
    refine LinL.step (s := (.val (.bool false))) [(90, some 7), (97, some 0)] rfl (by kernel_rfl) (op_runs rfl fun σ w' hx hg => ⟨_, runs_pick_f (ρ := σ.eval) (w := w') (.tmp 90) (.const (.bool true)) (.tmp 97) rfl hg.1 hg.2.1, rfl⟩) ?_
    refine LinL.step (s := (.val (.bool false))) [(98, some 0)] rfl (by kernel_rfl) (op_copy 98 0 (.val (.bool false)) rfl (.inl rfl) rfl) ?_
    refine LinL.step (s := (.val (.pointer (some A)))) [(5, none), (99, some 0)] rfl (by kernel_rfl) (op_yes (reads := [(5, none)]) 12 99 0 false rfl rfl rfl (op_out 5 (.pointer (some A)) rfl (.inl rfl) rfl)) ?_
    refine LinL.step (s := (Sp.recl 5 RecR RecR.stays (recs D2.l))) [(100, some 0), (99, some 1)] rfl (by kernel_rfl) (op_yes (reads := [(100, some 0)]) 12 99 1 false rfl rfl rfl (op_calls 26 #[(.tmp 100)] #[37] (fun σ => #[.pointer (some A)]) rfl rfl (fun _ _ => rfl) fun σ w' hx hg => ⟨by have h100 : σ.tmps.getD 100 undef = .pointer (some A) := hg.1; simp only [List.map_toArray, List.map_cons, List.map_nil, Act.eval, h100], (Read_any hlt2.out (hd.ext hx)).mono fun e w'' ⟨v, he, hx', hJ⟩ => ⟨v, he, hx', hJ.recs⟩⟩)) ?_
    refine LinL.step (s := (.val (v11))) [(11, none), (99, some 2)] rfl (by kernel_rfl) (op_yes (reads := [(11, none)]) 12 99 2 false rfl rfl rfl (op_out 11 (v11) rfl (.inl rfl) rfl)) ?_
    refine LinL.step (s := (.val (.bool true))) [(101, some 1), (102, some 0), (99, some 3)] rfl (by kernel_rfl) (op_yes (reads := [(101, some 1), (102, some 0)]) 12 99 3 false rfl rfl rfl (op_calls 14 #[(.tmp 101), (.tmp 102)] #[22, 22] (fun σ => #[σ.tmps.getD 101 undef, v11]) rfl rfl (fun _ _ => rfl) fun σ w' hx hg => ⟨by have h102 : σ.tmps.getD 102 undef = v11 := hg.2.1; simp only [List.map_toArray, List.map_cons, List.map_nil, Act.eval, h102], (Same_yes (show Recs 5 RecR w' (σ.tmps.getD 101 undef) (recs D2.l) from hg.1) (j11.ext RecR.stays hx)).mono fun e w'' h => ⟨_, h.1, h.2, rfl⟩⟩)) ?_
    refine LinL.step (s := (.val (.bool false))) [(103, some 0), (99, some 4)] rfl (by kernel_rfl) (op_yes (reads := [(103, some 0)]) 12 99 4 false rfl rfl rfl (op_runs rfl fun σ w' hx hg => ⟨(.bool false), by have h103 : σ.tmps.getD 103 undef = .bool true := hg.1; unfold Runs execOp; simp [Act.eval, h103, go_sem], rfl⟩)) ?_
    refine LinL.step (s := (.val (.bool false))) [(99, some 5), (104, some 0)] rfl (by kernel_rfl) (op_runs rfl fun σ w' hx hg => ⟨_, runs_pick_f (ρ := σ.eval) (w := w') (.tmp 99) (.const (.bool true)) (.tmp 104) rfl hg.1 hg.2.1, rfl⟩) ?_
    intro wN hxN
    simp only [Fin', Sp.recl, List.reverse_cons, List.reverse_nil, List.nil_append, List.cons_append, List.drop_zero, List.take_succ_cons, List.take_zero]
    intro q92 hq92 q101 hq101
    simp only [Act.put, List.setIfInBounds_toArray, List.set_cons_zero, List.set_cons_succ]
    go_wp2
    go_roundw
    case rel => exact ⟨k + 1, _, D2, vz, by go_num, by omega, hd.ext hxN, hO.extend hxN, f6.ext hxN, hS.ext hxN, n6, hlt2⟩
    case measure => simp [intOf]; omega

set_option maxRecDepth 100000 in
theorem journalRuns_lifted (os : Os) (started : os.Started) (H : Type) (enc : TypeId × Value → H) :
    ReturnsInHanded {} Try.checked os 5 .any (Rows.journalRunsSpec.pre6 enc Try.prog Try.f5 Rows.journalRunsRow.domain false) (Rows.journalRunsSpec.post enc Try.prog Try.f5 false true false false) := by
  refine law_lifted (s := Rows.journalRunsSpec) (conds := Rows.journalRunsRow.domain) Try.func5 (by kernel_rfl) rfl (fun H ds h => by
      rw [show Try.f5.params.size = 2 from rfl] at h
      match ds, h with
      | [d0, d1], _ => rfl) rfl rfl (by decide +kernel) os started H enc
    (ChangeSpec.witness6 (enc := enc) (C := Try.checked) false ⟨#[], #[.int .i64 0, .slice none 0 0], []⟩ 8 (by kernel_rfl) (by kernel_rfl) (by kernel_rfl) (by kernel_rfl)) ?_
  intro W base args ds p hval hA hsz _
  have hp : Try.f5.params.toList = [3, 36] := rfl
  rw [hp] at hA hsz
  obtain ⟨v0, v1, d0, d1, p0, p1, rfl, rfl, rfl, h0, h1⟩ := trodAll_two hA
  obtain ⟨a0, rfl, b0, c0⟩ := arg_int (hval 0 3 v0 rfl rfl) h0
  obtain ⟨l1, a1⟩ := arg_acts hsz (j := 1) rfl rfl (hval 1 36 v1 rfl rfl) h1
  exact journalRuns_law a0 v1 l1 W a1

theorem journalRuns_holds : Rows.JournalRunsSaid :=
  OpenClaim.holds_of_wide 5 Try.f5 rfl rfl rfl rfl rfl rfl rfl ⟨rfl, rfl, rfl, rfl, rfl⟩ rfl rfl rfl rfl rfl (by kernel_rfl) Try.func5 (by kernel_rfl)
    (of_decide_eq_true (by kernel_rfl)) (by unfold Func.isWrapper; first | (rw [if_pos (by decide +kernel)]; kernel_rfl) | (rw [if_neg (by decide +kernel)]; exact ⟨rfl, rfl⟩))
    (fun os started H enc _ => journalRuns_lifted os started H enc)
#print axioms journalRuns_holds

end Go.Proofs.Ytfhecifgpjbeiaa
