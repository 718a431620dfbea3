/- The statement JournalKeeps: behind any crash the records are found that were synced, and of those behind some, from the first one on, whole. No condition. -/
import Derived.Test.YtfhecifgpjbeiaaJNames
import Derived.Test.YtfhecifgpjbeiaaJRf3
import Derived.Test.YtfhecifgpjbeiaaOwnW
namespace Go.Proofs.Ytfhecifgpjbeiaa
open Go.RowKit Go.ChangeShapes Go.WideShapes Go.ChangeAt

theorem JInv.new (n : Int) : JInv (.new n) [] 0 := ⟨rfl, by simp, by simp, rfl⟩

set_option maxRecDepth 100000 in
set_option maxHeartbeats 6400000 in
theorem journalKeeps_law (v : Value) (l : List RecD) (sync keep : Int) (W : World) (hl : Recs 5 RecR W v l) :
    Calls Try.prog 6 #[v, .int .i64 sync, .int .i64 keep] W fun e w' => e = .returned (.bool true) ∧ Ext W w' := by
  refine calls_keep ?_
  by_cases hbig : 60 < l.length
  · have t0 : decide ((60 : Int) < (l.length : Int)) = true := by simp; omega
    clear hbig
    go_enter Try.func6, Try.ntmps6
    go_wp2_with (first
      | (go_at_call 10; refine (alive_any _).mono ?_; rintro e w1 ⟨rfl, hX⟩; (try simp only [Act.put, List.setIfInBounds_toArray, List.set_cons_zero, List.set_cons_succ]))
      | (refine w_rlen Try.elRec _ rfl rfl rfl (hl.ext RecR.stays hX) ?_; (try simp only [Act.put, List.setIfInBounds_toArray, List.set_cons_zero, List.set_cons_succ]))
      | fail)
    go_ret
    exact Keep.intro ⟨rfl, hX⟩
  have t0 : decide ((60 : Int) < (l.length : Int)) = false := by simp; omega
  have h60 : l.length ≤ 60 := by omega
  clear hbig
  go_enter Try.func6, Try.ntmps6
  go_wp2_with (first
    | (go_at_call 10; refine (alive_any _).mono ?_; rintro e w1 ⟨rfl, hX⟩; (try simp only [Act.put, List.setIfInBounds_toArray, List.set_cons_zero, List.set_cons_succ]))
    | (go_at_call 15; ((with_reducible refine (New_any _ _).mono ?_); rintro e w2 ⟨p, rfl, hx1, hd⟩; have hO := Out.of_new hX hx1 hd; obtain ⟨A, rfl⟩ := hd.ne_nil; obtain ⟨F0, hd, hO⟩ : ∃ F0, Dsk F0 w2 (.pointer (some A)) (.new 60000) ∧ Out W F0 w2 := ⟨_, hd, hO⟩; clear hX hx1); (try simp only [Act.put, List.setIfInBounds_toArray, List.set_cons_zero, List.set_cons_succ]))
    | (refine w_nnew Try.elRecN [] rfl rfl rfl (by simp) rfl (by omega) ?_; intro v8 w3 B hB1 hB2 hx hn; have hw := OwnW.empty (W := W) hn (fun k hk => Nat.le_trans hO.ext.size (Nat.le_trans hB1 hk.1)); have hdis : ∀ k, v8.ownBlock = some k → ¬ F0 k := (fun k hk h => by have := (hn.inF k hk).1; have := hd.bd k h; omega); replace hd := hd.ext hx; replace hO := hO.extend hx; clear hn hx hB1 hB2; (try simp only [Act.put, List.setIfInBounds_toArray, List.set_cons_zero, List.set_cons_succ]))
    | (refine w_rlen Try.elRec _ rfl rfl rfl (hl.ext RecR.stays hX) ?_; (try simp only [Act.put, List.setIfInBounds_toArray, List.set_cons_zero, List.set_cons_succ]))
    | (refine w_rlen Try.elRec _ rfl rfl rfl (hl.ext RecR.stays hO.ext) ?_; (try simp only [Act.put, List.setIfInBounds_toArray, List.set_cons_zero, List.set_cons_succ]))
    | fail)
  go_loopw [22, 8, 9] (fun i vw sf wr => ∃ (k : Nat) (F : Nat → Prop) (D : DSt) (dl : List RecD) (safe : Nat), i = .int .i64 k ∧ sf = .int .i64 safe ∧ k ≤ l.length ∧ dl.length ≤ k ∧ Dsk F wr (.pointer (some A)) D ∧ Out W F wr ∧ OwnW W wr vw dl ∧ Hid (∀ j, vw.ownBlock = some j → ¬ F j) ∧ Hid (JInv D dl safe)) (fun i _ _ _ => l.length - (intOf i).toNat)
  case atStart => exact ⟨0, F0, _, [], 0, rfl, rfl, Nat.zero_le _, Nat.le_refl _, hd, hO, hw, hide_ hdis, hide_ (JInv.new _)⟩
  case round =>
    clear hd hO hw hdis
    obtain ⟨k, F, D, dl, safe, rfl, rfl, hk, hdk, hd, hO, hw, hdis0, hI⟩ := hrel
    obtain ⟨vw, hvw⟩ : ∃ vw, vw = u8 := ⟨_, rfl⟩
    rw [← hvw] at hw hdis0
    subst hvw
    have hdis := hdis0.out
    by_cases hge : l.length ≤ k
    · have t1 : decide (k < l.length) = false := by simpa using hge
      obtain ⟨kk, hk1, hk2, hk3⟩ := hI.out.crash keep
      obtain ⟨L, hL⟩ : ∃ L, L = dl.take kk := ⟨_, rfl⟩
      have hLl : L.length = kk := by rw [hL]; simp; omega
      have hkk := hide_ (show recs (D.crash keep).l = L from hL ▸ hk3)
      have hLt := hide_ (show dl.take L.length = L from by rw [hLl, hL])
      have hLd := hide_ (show L.length ≤ dl.length from by omega)
      have hlt9 := hide_ (show ∀ x ∈ (D.crash keep).l, x < 256 from fun x hx => hI.out.lt x (List.mem_of_mem_take hx))
      have t2 : decide (safe ≤ L.length) = true := by simp; omega
      have t3 : decide (L.length ≤ dl.length) = true := by simp; omega
      clear hge hk hdk hI hk1 hk2 hk3 hL hLl hdis0
      go_wp2_with (first
        | (go_at_call 21; refine (Crash_any keep hd).mono ?_; rintro e w9 ⟨rfl, hm, hd'⟩; replace hw := hw.mod hm hdis; replace hO := hO.upd hm.upd; replace hd := hd'; clear hm hd'; (try simp only [Act.put, List.setIfInBounds_toArray, List.set_cons_zero, List.set_cons_succ]))
        | (go_at_call 26; refine (Read_any hlt9.out hd).mono ?_; rintro e wx ⟨v12, rfl, hxx, hJ⟩; rw [hkk.out] at hJ; have j12 := hJ.recs; replace hO := hO.extend hxx; replace hw := hw.ext hxx; have jw := hw.recs hO.ext; clear hJ hxx hd hw; (try simp only [Act.put, List.setIfInBounds_toArray, List.set_cons_zero, List.set_cons_succ]))
        | ((try refine w_yes _ _ _ rfl rfl rfl ?_); refine w_rlen Try.elRec _ rfl rfl rfl j12 ?_; (try simp only [Act.put, List.setIfInBounds_toArray, List.set_cons_zero, List.set_cons_succ]))
        | ((try refine w_yes _ _ _ rfl rfl rfl ?_); refine w_rlen Try.elRec _ rfl rfl rfl jw ?_; (try simp only [Act.put, List.setIfInBounds_toArray, List.set_cons_zero, List.set_cons_succ]))
        | ((try refine w_yes _ _ _ rfl rfl rfl ?_); refine w_nto Try.elRec _ _ L.length rfl rfl rfl rfl jw hLd.out ?_; intro vs js; rw [hLt.out] at js; (try simp only [Act.put, List.setIfInBounds_toArray, List.set_cons_zero, List.set_cons_succ]))
        | ((try refine w_yes _ _ _ rfl rfl rfl ?_); go_at_call 14; refine (Same_yes j12 js).mono ?_; rintro e w6 ⟨rfl, hx⟩; replace hO := hO.extend hx; (try simp only [Act.put, List.setIfInBounds_toArray, List.set_cons_zero, List.set_cons_succ]))
        | fail)
      go_ret
      exact Keep.intro ⟨rfl, hO.ext⟩
    have hlt : k < l.length := by omega
    have t1 : decide (k < l.length) = true := by simpa using hlt
    obtain ⟨r, hlk⟩ : ∃ r, l[k] = r := ⟨_, rfl⟩
    have hrt : ∀ x ∈ r.t, x < 256 := by
      have := recs_ok_of hl (p := fun d => ∀ x ∈ d.t, x < 256) (fun w row d h => h.2.t.1) l[k] (List.getElem_mem hlt)
      rwa [hlk] at this
    replace hlk := hide_ hlk
    clear hge
    by_cases hE : jAddE D r = 0
    · have te : (((jAddE D r : Nat) : Int) == 0) = true := by rw [hE]; rfl
      have hI2 := hide_ (hI.out.add hE hrt)
      clear hE hI hrt
      cases ts : ((k : Int) == sync)
      · go_wp2_with (first
          | (refine w_ridx0 Try.elRec _ _ k RecR.stays rfl rfl rfl rfl hl hO.ext hlt ?_; rintro p row hrow hrl hr; rw [hlk.out] at hr; have hr1 := hr.one.2; (try simp only [Act.put, List.setIfInBounds_toArray, List.set_cons_zero, List.set_cons_succ]))
          | (refine w_pload Try.stRec _ rfl rfl rfl (hrow.ext hO.ext) hrl ?_; (try simp only [Act.put, List.setIfInBounds_toArray, List.set_cons_zero, List.set_cons_succ]))
          | (refine w_alloc Try.stRec rfl rfl ?_; intro g11 w4 hg hx4 f11; have n11 : ¬ F g11 := (fun h => by have := hd.bd g11 h; omega); (try simp only [Act.put, List.setIfInBounds_toArray, List.set_cons_zero, List.set_cons_succ]))
          | (refine w_astore Try.stRec (us := row) _ _ rfl rfl rfl rfl rfl f11 rfl hrl hr1 ?_; intro w5 hm5 f5; replace f11 := f5; have hx := hm5.after hx4 (fun i e => e ▸ hg); replace hd := hd.ext hx; replace hO := hO.extend hx; replace hw := hw.ext hx; clear f5 hm5 hx4 hg hx hrow; (try simp only [Act.put, List.setIfInBounds_toArray, List.set_cons_zero, List.set_cons_succ]))
          | (go_at_call 17; refine (JAdd_any (RecR.stays _ _ _ _ hr hO.ext) hd).mono ?_; rintro e w6 ⟨F', rfl, hup, hd'⟩; replace f11 := f11.mod hup.mod n11; have hdis' : ∀ k, vw.ownBlock = some k → ¬ F' k := (fun k hk h => (hup.sub k h).elim (hdis k hk) (fun e => by have := hw.lt hk; omega)); replace hw := hw.mod hup.mod hdis; replace hO := hO.upd hup; replace hd := hd'; replace hdis := hdis'; clear hup hd' hdis'; (try simp only [Act.put, List.setIfInBounds_toArray, List.set_cons_zero, List.set_cons_succ]))
          | (refine w_nnew Try.elRecN [row] rfl rfl rfl (by intro y hy; simp at hy; subst hy; exact hrl) rfl (by omega) ?_; intro vl w7 B hB1 hB2 hx hn5; have hl5 := hn5.slS; replace hd := hd.ext hx; replace hO := hO.extend hx; replace hw := hw.ext hx; clear hn5 hB1 hB2 hx f11; (try simp only [Act.put, List.setIfInBounds_toArray, List.set_cons_zero, List.set_cons_succ]))
          | (obtain ⟨⟨rows, h1, h2, h3⟩, h4⟩ := hw; refine w_napp Try.elRecN _ _ rfl rfl rfl rfl h1 hl5 (by simp) (by intro y hy; simp at hy; subst hy; exact hr1) (by simp; omega) ?_; intro v9 w8 hm8 hn8; have hw := OwnW.app hO.ext.size h2 h3 h4 hr hn8; have hd2 := hd.mod hm8 (fun k hk e => hdis k e hk); replace hdis := RowN.off hn8 hd.bd hdis; replace hd := hd2; clear hd2; replace hO := hO.other hm8 (fun k hk => h4 k hk); clear h1 h2 h3 h4 hl5 hm8 hn8; (try simp only [Act.put, List.setIfInBounds_toArray, List.set_cons_zero, List.set_cons_succ]))
          | (refine w_aload Try.stRec _ rfl rfl rfl f11 hrl ?_; (try simp only [Act.put, List.setIfInBounds_toArray, List.set_cons_zero, List.set_cons_succ]))
          | fail)
        go_roundw
        case rel => exact ⟨k + 1, _, _, dl ++ [r], safe, by go_num, rfl, by omega, by simp; omega, hd, hO, hw, hide_ hdis, hI2⟩
        case measure => simp [intOf]; omega
      · have hI3 := hide_ hI2.out.sync
        go_wp2_with (first
          | (refine w_ridx0 Try.elRec _ _ k RecR.stays rfl rfl rfl rfl hl hO.ext hlt ?_; rintro p row hrow hrl hr; rw [hlk.out] at hr; have hr1 := hr.one.2; (try simp only [Act.put, List.setIfInBounds_toArray, List.set_cons_zero, List.set_cons_succ]))
          | (refine w_pload Try.stRec _ rfl rfl rfl (hrow.ext hO.ext) hrl ?_; (try simp only [Act.put, List.setIfInBounds_toArray, List.set_cons_zero, List.set_cons_succ]))
          | (refine w_alloc Try.stRec rfl rfl ?_; intro g11 w4 hg hx4 f11; have n11 : ¬ F g11 := (fun h => by have := hd.bd g11 h; omega); (try simp only [Act.put, List.setIfInBounds_toArray, List.set_cons_zero, List.set_cons_succ]))
          | (refine w_astore Try.stRec (us := row) _ _ rfl rfl rfl rfl rfl f11 rfl hrl hr1 ?_; intro w5 hm5 f5; replace f11 := f5; have hx := hm5.after hx4 (fun i e => e ▸ hg); replace hd := hd.ext hx; replace hO := hO.extend hx; replace hw := hw.ext hx; clear f5 hm5 hx4 hg hx hrow; (try simp only [Act.put, List.setIfInBounds_toArray, List.set_cons_zero, List.set_cons_succ]))
          | (go_at_call 17; refine (JAdd_any (RecR.stays _ _ _ _ hr hO.ext) hd).mono ?_; rintro e w6 ⟨F', rfl, hup, hd'⟩; replace f11 := f11.mod hup.mod n11; have hdis' : ∀ k, vw.ownBlock = some k → ¬ F' k := (fun k hk h => (hup.sub k h).elim (hdis k hk) (fun e => by have := hw.lt hk; omega)); replace hw := hw.mod hup.mod hdis; replace hO := hO.upd hup; replace hd := hd'; replace hdis := hdis'; clear hup hd' hdis'; (try simp only [Act.put, List.setIfInBounds_toArray, List.set_cons_zero, List.set_cons_succ]))
          | (refine w_nnew Try.elRecN [row] rfl rfl rfl (by intro y hy; simp at hy; subst hy; exact hrl) rfl (by omega) ?_; intro vl w7 B hB1 hB2 hx hn5; have hl5 := hn5.slS; replace hd := hd.ext hx; replace hO := hO.extend hx; replace hw := hw.ext hx; clear hn5 hB1 hB2 hx f11; (try simp only [Act.put, List.setIfInBounds_toArray, List.set_cons_zero, List.set_cons_succ]))
          | (obtain ⟨⟨rows, h1, h2, h3⟩, h4⟩ := hw; refine w_napp Try.elRecN _ _ rfl rfl rfl rfl h1 hl5 (by simp) (by intro y hy; simp at hy; subst hy; exact hr1) (by simp; omega) ?_; intro v9 w8 hm8 hn8; have hw := OwnW.app hO.ext.size h2 h3 h4 hr hn8; have hd2 := hd.mod hm8 (fun k hk e => hdis k e hk); replace hdis := RowN.off hn8 hd.bd hdis; replace hd := hd2; clear hd2; replace hO := hO.other hm8 (fun k hk => h4 k hk); clear h1 h2 h3 h4 hl5 hm8 hn8; (try simp only [Act.put, List.setIfInBounds_toArray, List.set_cons_zero, List.set_cons_succ]))
          | (go_at_call 19; refine (Sync_any hd).mono ?_; rintro e w9 ⟨rfl, hm, hd'⟩; replace hw := hw.mod hm hdis; replace hO := hO.upd hm.upd; replace hd := hd'; clear hm hd'; (try simp only [Act.put, List.setIfInBounds_toArray, List.set_cons_zero, List.set_cons_succ]))
          | ((try refine w_yes _ _ _ rfl rfl rfl ?_); refine w_rlen Try.elRec _ rfl rfl rfl (hw.recs hO.ext) ?_; (try simp only [Act.put, List.setIfInBounds_toArray, List.set_cons_zero, List.set_cons_succ]))
          | (refine w_aload Try.stRec _ rfl rfl rfl f11 hrl ?_; (try simp only [Act.put, List.setIfInBounds_toArray, List.set_cons_zero, List.set_cons_succ]))
          | fail)
        go_roundw
        case rel => exact ⟨k + 1, _, _, dl ++ [r], (dl ++ [r]).length, by go_num, by simp, by omega, by simp; omega, hd, hO, hw, hide_ hdis, hI3⟩
        case measure => simp [intOf]; omega
    · have te : (((jAddE D r : Nat) : Int) == 0) = false := by rw [beq_eq_false_iff_ne]; omega
      have hno := hide_ (jAdd_no hE)
      clear hE hrt
      cases ts : ((k : Int) == sync)
      · go_wp2_with (first
          | (refine w_ridx0 Try.elRec _ _ k RecR.stays rfl rfl rfl rfl hl hO.ext hlt ?_; rintro p row hrow hrl hr; rw [hlk.out] at hr; have hr1 := hr.one.2; (try simp only [Act.put, List.setIfInBounds_toArray, List.set_cons_zero, List.set_cons_succ]))
          | (refine w_pload Try.stRec _ rfl rfl rfl (hrow.ext hO.ext) hrl ?_; (try simp only [Act.put, List.setIfInBounds_toArray, List.set_cons_zero, List.set_cons_succ]))
          | (refine w_alloc Try.stRec rfl rfl ?_; intro g11 w4 hg hx4 f11; have n11 : ¬ F g11 := (fun h => by have := hd.bd g11 h; omega); (try simp only [Act.put, List.setIfInBounds_toArray, List.set_cons_zero, List.set_cons_succ]))
          | (refine w_astore Try.stRec (us := row) _ _ rfl rfl rfl rfl rfl f11 rfl hrl hr1 ?_; intro w5 hm5 f5; replace f11 := f5; have hx := hm5.after hx4 (fun i e => e ▸ hg); replace hd := hd.ext hx; replace hO := hO.extend hx; replace hw := hw.ext hx; clear f5 hm5 hx4 hg hx hrow; (try simp only [Act.put, List.setIfInBounds_toArray, List.set_cons_zero, List.set_cons_succ]))
          | (go_at_call 17; refine (JAdd_any (RecR.stays _ _ _ _ hr hO.ext) hd).mono ?_; rintro e w6 ⟨F', rfl, hup, hd'⟩; replace f11 := f11.mod hup.mod n11; have hdis' : ∀ k, vw.ownBlock = some k → ¬ F' k := (fun k hk h => (hup.sub k h).elim (hdis k hk) (fun e => by have := hw.lt hk; omega)); replace hw := hw.mod hup.mod hdis; replace hO := hO.upd hup; replace hd := hd'; replace hdis := hdis'; clear hup hd' hdis'; (try simp only [Act.put, List.setIfInBounds_toArray, List.set_cons_zero, List.set_cons_succ]))
          | (refine w_aload Try.stRec _ rfl rfl rfl f11 hrl ?_; (try simp only [Act.put, List.setIfInBounds_toArray, List.set_cons_zero, List.set_cons_succ]))
          | fail)
        go_roundw
        case rel => exact ⟨k + 1, _, _, dl, safe, by go_num, rfl, by omega, by omega, hd, hO, hw, hide_ hdis, by rw [hno.out]; exact hI⟩
        case measure => simp [intOf]; omega
      · have hI3 := hide_ hI.out.sync
        go_wp2_with (first
          | (refine w_ridx0 Try.elRec _ _ k RecR.stays rfl rfl rfl rfl hl hO.ext hlt ?_; rintro p row hrow hrl hr; rw [hlk.out] at hr; have hr1 := hr.one.2; (try simp only [Act.put, List.setIfInBounds_toArray, List.set_cons_zero, List.set_cons_succ]))
          | (refine w_pload Try.stRec _ rfl rfl rfl (hrow.ext hO.ext) hrl ?_; (try simp only [Act.put, List.setIfInBounds_toArray, List.set_cons_zero, List.set_cons_succ]))
          | (refine w_alloc Try.stRec rfl rfl ?_; intro g11 w4 hg hx4 f11; have n11 : ¬ F g11 := (fun h => by have := hd.bd g11 h; omega); (try simp only [Act.put, List.setIfInBounds_toArray, List.set_cons_zero, List.set_cons_succ]))
          | (refine w_astore Try.stRec (us := row) _ _ rfl rfl rfl rfl rfl f11 rfl hrl hr1 ?_; intro w5 hm5 f5; replace f11 := f5; have hx := hm5.after hx4 (fun i e => e ▸ hg); replace hd := hd.ext hx; replace hO := hO.extend hx; replace hw := hw.ext hx; clear f5 hm5 hx4 hg hx hrow; (try simp only [Act.put, List.setIfInBounds_toArray, List.set_cons_zero, List.set_cons_succ]))
          | (go_at_call 17; refine (JAdd_any (RecR.stays _ _ _ _ hr hO.ext) hd).mono ?_; rintro e w6 ⟨F', rfl, hup, hd'⟩; replace f11 := f11.mod hup.mod n11; have hdis' : ∀ k, vw.ownBlock = some k → ¬ F' k := (fun k hk h => (hup.sub k h).elim (hdis k hk) (fun e => by have := hw.lt hk; omega)); replace hw := hw.mod hup.mod hdis; replace hO := hO.upd hup; replace hd := hd'; replace hdis := hdis'; clear hup hd' hdis'; (try simp only [Act.put, List.setIfInBounds_toArray, List.set_cons_zero, List.set_cons_succ]))
          | (go_at_call 19; refine (Sync_any hd).mono ?_; rintro e w9 ⟨rfl, hm, hd'⟩; replace hw := hw.mod hm hdis; replace hO := hO.upd hm.upd; replace hd := hd'; clear hm hd'; (try simp only [Act.put, List.setIfInBounds_toArray, List.set_cons_zero, List.set_cons_succ]))
          | ((try refine w_yes _ _ _ rfl rfl rfl ?_); refine w_rlen Try.elRec _ rfl rfl rfl (hw.recs hO.ext) ?_; (try simp only [Act.put, List.setIfInBounds_toArray, List.set_cons_zero, List.set_cons_succ]))
          | (refine w_aload Try.stRec _ rfl rfl rfl f11 hrl ?_; (try simp only [Act.put, List.setIfInBounds_toArray, List.set_cons_zero, List.set_cons_succ]))
          | fail)
        go_roundw
        case rel => exact ⟨k + 1, _, _, dl, dl.length, by go_num, rfl, by omega, by omega, hd, hO, hw, hide_ hdis, by rw [hno.out]; exact hI3⟩
        case measure => simp [intOf]; omega

set_option maxRecDepth 100000 in
theorem journalKeeps_lifted (os : Os) (started : os.Started) (H : Type) (enc : TypeId × Value → H) :
    ReturnsInHanded {} Try.checked os 6 .any (Rows.journalKeepsSpec.pre6 enc Try.prog Try.f6 Rows.journalKeepsRow.domain false) (Rows.journalKeepsSpec.post enc Try.prog Try.f6 false true false false) := by
  refine law_lifted (s := Rows.journalKeepsSpec) (conds := Rows.journalKeepsRow.domain) Try.func6 (by kernel_rfl) rfl (fun H ds h => by
      rw [show Try.f6.params.size = 3 from rfl] at h
      match ds, h with
      | [d0, d1, d2], _ => rfl) rfl rfl (by decide +kernel) os started H enc
    (ChangeSpec.witness6 (enc := enc) (C := Try.checked) false ⟨#[], #[.slice none 0 0, .int .i64 0, .int .i64 0], []⟩ 8 (by kernel_rfl) (by kernel_rfl) (by kernel_rfl) (by kernel_rfl)) ?_
  intro W base args ds p hval hA hsz _
  have hp : Try.f6.params.toList = [22, 3, 3] := rfl
  rw [hp] at hA hsz
  obtain ⟨v0, v1, v2, d0, d1, d2, p0, p1, p2, rfl, rfl, rfl, h0, h1, h2⟩ := trodAll_three hA
  obtain ⟨l0, a0⟩ := arg_Recs hsz (j := 0) rfl rfl (hval 0 22 v0 rfl rfl) h0
  obtain ⟨a1, rfl, b1, c1⟩ := arg_int (hval 1 3 v1 rfl rfl) h1
  obtain ⟨a2, rfl, b2, c2⟩ := arg_int (hval 2 3 v2 rfl rfl) h2
  exact journalKeeps_law v0 l0 a1 a2 W a0

theorem journalKeeps_holds : Rows.JournalKeepsSaid :=
  OpenClaim.holds_of_wide 6 Try.f6 rfl rfl rfl rfl rfl rfl rfl ⟨rfl, rfl, rfl, rfl, rfl⟩ rfl rfl rfl rfl rfl (by kernel_rfl) Try.func6 (by kernel_rfl)
    (of_decide_eq_true (by kernel_rfl)) (by unfold Func.isWrapper; first | (rw [if_pos (by decide +kernel)]; kernel_rfl) | (rw [if_neg (by decide +kernel)]; exact ⟨rfl, rfl⟩))
    (fun os started H enc _ => journalKeeps_lifted os started H enc)
#print axioms journalKeeps_holds

end Go.Proofs.Ytfhecifgpjbeiaa
