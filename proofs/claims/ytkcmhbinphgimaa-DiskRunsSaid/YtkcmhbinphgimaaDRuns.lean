/- The statement DiskRuns: whatever is done with a disk: all answers, what is on it, what is safe, and how much room there is are the document's. No condition. -/
import Derived.Test.YtkcmhbinphgimaaDNames
import Derived.Test.YtkcmhbinphgimaaDActs
import Derived.Test.YtkcmhbinphgimaaDskRef2
namespace Go.Proofs.Ytkcmhbinphgimaa
open Go.RowKit Go.ChangeShapes Go.WideShapes Go.ChangeAt

/-- The call owns v, which holds these bytes. -/
def OwnU (B : Nat) (w : World) (v : Value) (zs : List Int) : Prop := w.ownsRow B 5 1 v (zs.map (Value.int .u8)).length (zs.map (Value.int .u8))
theorem OwnB.u {B : Nat} {w : World} {v : Value} {l : List Nat} (h : OwnB B w v l) : OwnU B w v (l.map fun n : Nat => (n : Int)) := by
  have e : (l.map fun n : Nat => (n : Int)).map (Value.int .u8) = u8s l := by simp [u8s]
  unfold OwnU; rw [e]; exact h

set_option maxRecDepth 100000 in
set_option maxHeartbeats 12800000 in
theorem diskRuns_law (n : Int) (v : Value) (l : List ActD) (W : World) (hl : Recs 3 ActR W v l) (hn : -9223372036854775808 ≤ n ∧ n ≤ 9223372036854775807) :
    Calls Try.prog 4 #[.int .i64 n, v] W fun e w' => e = .returned (.bool true) ∧ Ext W w' := by
  refine calls_keep ?_
  clear hn
  have ho0 : DSt.Ok ⟨[], 0, 0⟩ := ⟨by simp, by simp, by simp⟩
  have hR0 : ∀ (G : Nat → Prop) w, RD G w (.agg #[.slice none 0 0, .int .i64 0, .int .i64 0]) ⟨[], 0, 0⟩ := fun G w => RD.made (D := ⟨[], 0, 0⟩) ⟨Sl.nil _, (fun k hk => nomatch hk), (fun k hk => nomatch hk)⟩ ho0
  have hb0 : Hid (DSt.setLim ⟨[], 0, 0⟩ n = DSt.new n) := hide_ rfl
  by_cases hbig : 200 < l.length
  · have t0 : decide ((200 : Int) < (l.length : Int)) = true := by simp; omega
    clear hbig
    go_enter Try.func4, Try.ntmps4
    go_wp2_with (first
      | (go_at_call 9; refine (alive_any _).mono ?_; rintro e w1 ⟨rfl, hX⟩; (try simp only [Act.put, List.setIfInBounds_toArray, List.set_cons_zero, List.set_cons_succ]))
      | (go_at_call 10; ((with_reducible refine (New_any _ _).mono ?_); rintro e w2 ⟨p, rfl, hx1, hd⟩; have hO := Out.of_new hX hx1 hd; obtain ⟨A, rfl⟩ := hd.ne_nil; obtain ⟨F0, hd, hO⟩ : ∃ F0, Dsk F0 w2 (.pointer (some A)) (.new n) ∧ Out W F0 w2 := ⟨_, hd, hO⟩); (try simp only [Act.put, List.setIfInBounds_toArray, List.set_cons_zero, List.set_cons_succ]))
      | (go_at_call 13; refine (RLimit_any n (hR0 F0 _)).mono ?_; rintro e w3 ⟨val, rfl, hx3, hR⟩; obtain ⟨⟨vz, rfl, hZ⟩, _⟩ := hR; replace hO := hO.extend hx3; have cz : vz.oneCell' = true := hZ.sl.one'; (try simp only [Act.put, List.setIfInBounds_toArray, List.set_cons_zero, List.set_cons_succ]))
      | (refine w_alloc Try.stR rfl rfl ?_; intro g6 w4 hg6 hx4 f6; have hn6 : W.heap.size ≤ g6 := Nat.le_trans hO.ext.size hg6; replace hO := hO.extend hx4; (try simp only [Act.put, List.setIfInBounds_toArray, List.set_cons_zero, List.set_cons_succ]))
      | (refine w_astore Try.stR (us := [vz, .int .i64 (DSt.setLim ⟨[], 0, 0⟩ n).s, .int .i64 (DSt.setLim ⟨[], 0, 0⟩ n).lim]) _ _ rfl rfl rfl rfl rfl f6 rfl rfl (List.forall_mem_cons.2 ⟨cz, List.forall_mem_cons.2 ⟨rfl, List.forall_mem_cons.2 ⟨rfl, by simp⟩⟩⟩) ?_; intro wS hmS f6'; replace hO := hO.other hmS (fun j e => e ▸ hn6); (try simp only [Act.put, List.setIfInBounds_toArray, List.set_cons_zero, List.set_cons_succ]))
      | ((try refine w_yes _ _ _ rfl rfl rfl ?_); refine w_rlen Try.elA _ rfl rfl rfl (hl.ext ActR.stays hO.ext) ?_; (try simp only [Act.put, List.setIfInBounds_toArray, List.set_cons_zero, List.set_cons_succ]))
      | fail)
    go_ret
    exact Keep.intro ⟨rfl, hO.ext⟩
  have t0 : decide ((200 : Int) < (l.length : Int)) = false := by simp; omega
  have h200 : l.length ≤ 200 := by omega
  clear hbig
  go_enter Try.func4, Try.ntmps4
  go_wp2_with (first
    | (go_at_call 9; refine (alive_any _).mono ?_; rintro e w1 ⟨rfl, hX⟩; (try simp only [Act.put, List.setIfInBounds_toArray, List.set_cons_zero, List.set_cons_succ]))
    | (go_at_call 10; ((with_reducible refine (New_any _ _).mono ?_); rintro e w2 ⟨p, rfl, hx1, hd⟩; have hO := Out.of_new hX hx1 hd; obtain ⟨A, rfl⟩ := hd.ne_nil; obtain ⟨F0, hd, hO⟩ : ∃ F0, Dsk F0 w2 (.pointer (some A)) (.new n) ∧ Out W F0 w2 := ⟨_, hd, hO⟩; clear hX); (try simp only [Act.put, List.setIfInBounds_toArray, List.set_cons_zero, List.set_cons_succ]))
    | (go_at_call 13; refine (RLimit_any n (hR0 F0 _)).mono ?_; rintro e w3 ⟨val, rfl, hx3, hR⟩; obtain ⟨⟨vz, rfl, hZ⟩, _⟩ := hR; replace hO := hO.extend hx3; replace hd := hd.ext hx3; have cz : vz.oneCell' = true := hZ.sl.one'; (try simp only [Act.put, List.setIfInBounds_toArray, List.set_cons_zero, List.set_cons_succ]))
    | (refine w_alloc Try.stR rfl rfl ?_; intro g6 w4 hg6 hx4 f6; have hn6 : W.heap.size ≤ g6 := Nat.le_trans hO.ext.size hg6; have n6 : ¬ F0 g6 := (fun h => by have := hd.bd g6 h; omega); have hS := (hZ.weak (G' := fun k => F0 k ∨ k = g6) (fun k hk h => h.elim id fun e => by omega)).ext hx4; replace hO := hO.extend hx4; replace hd := hd.ext hx4; (try simp only [Act.put, List.setIfInBounds_toArray, List.set_cons_zero, List.set_cons_succ]))
    | (refine w_astore Try.stR (us := [vz, .int .i64 (DSt.setLim ⟨[], 0, 0⟩ n).s, .int .i64 (DSt.setLim ⟨[], 0, 0⟩ n).lim]) _ _ rfl rfl rfl rfl rfl f6 rfl rfl (List.forall_mem_cons.2 ⟨cz, List.forall_mem_cons.2 ⟨rfl, List.forall_mem_cons.2 ⟨rfl, by simp⟩⟩⟩) ?_; intro wS hmS f6'; replace f6 := f6'; replace hO := hO.other hmS (fun j e => e ▸ hn6); replace hd := hd.mod hmS (fun j hj e => n6 (e ▸ hj)); replace hS := hS.mod' hmS (fun j hj e => hS.off j hj (.inr e)); rw [hb0.out] at f6 hS; clear hmS f6'; (try simp only [Act.put, List.setIfInBounds_toArray, List.set_cons_zero, List.set_cons_succ]))
    | ((try refine w_yes _ _ _ rfl rfl rfl ?_); refine w_rlen Try.elA _ rfl rfl rfl (hl.ext ActR.stays hO.ext) ?_; (try simp only [Act.put, List.setIfInBounds_toArray, List.set_cons_zero, List.set_cons_succ]))
    | fail)
  go_loopw [31] (fun i wr => ∃ (k : Nat) (F : Nat → Prop) (D : DSt) (vw : Value), i = .int .i64 k ∧ k ≤ l.length ∧ Dsk F wr (.pointer (some A)) D ∧ Out W F wr ∧ Fs wr g6 [vw, .int .i64 D.s, .int .i64 D.lim] ∧ Safe (fun j => F j ∨ j = g6) wr vw (u8s D.l) ∧ ¬ F g6) (fun i _ => l.length - (intOf i).toNat)
  case atStart => exact ⟨0, F0, _, vz, rfl, Nat.zero_le _, hd, hO, f6, hS, n6⟩
  case round =>
    clear hd hO f6 hS n6
    obtain ⟨k, F, D, vw, rfl, hk, hd, hO, f6, hS, n6⟩ := hrel
    have cw : vw.oneCell' = true := hS.sl.one'
    by_cases hge : l.length ≤ k
    · have t1 : decide (k < l.length) = false := by simpa using hge
      go_wp2
      go_ret
      exact Keep.intro ⟨rfl, hO.ext⟩
    have hlt : k < l.length := by omega
    have t1 : decide (k < l.length) = true := by simpa using hlt
    clear hge
    have hbd := hd.bd
    have hW := hO.ext.size
    have hvl := hS.lt
    have h6l := f6.lt
    have ho := hd.ok
    by_cases hk0 : l[k].k = 0
    · have hc0 : (l[k].k == 0) = true := by rw [beq_iff_eq]; exact hk0
      obtain ⟨D2, hD2⟩ : ∃ D2, D2 = D.app l[k].data := ⟨_, rfl⟩
      have ho2 := hide_ (show D2.Ok from hD2 ▸ (ho.app _))
      replace hD2 := hide_ hD2.symm
      clear hk0
      go_wp2_with (first
        | (refine w_ridx0 Try.elA _ _ k ActR.stays rfl rfl rfl rfl hl hO.ext hlt ?_; rintro p row hrow hrl ⟨⟨u, rfl, hu⟩, hok⟩; have cu : u.oneCell' = true := hu.one'; (try simp only [Act.put, List.setIfInBounds_toArray, List.set_cons_zero, List.set_cons_succ]))
        | (refine w_pload Try.stA _ rfl rfl rfl (hrow.ext hO.ext) rfl ?_; (try simp only [Act.put, List.setIfInBounds_toArray, List.set_cons_zero, List.set_cons_succ]))
        | (refine w_alloc Try.stA rfl rfl ?_; intro g7 w7 hg7 hx7 f7; replace hd := hd.ext hx7; replace hO := hO.extend hx7; replace f6 := f6.ext hx7; replace hS := hS.ext hx7; have n76 : g6 ≠ g7 := (by omega); (try simp only [Act.put, List.setIfInBounds_toArray, List.set_cons_zero, List.set_cons_succ]))
        | (refine w_astore Try.stA (us := [.int .i64 l[k].k, .int .i64 l[k].n, u]) _ _ rfl rfl rfl rfl rfl f7 rfl rfl (List.forall_mem_cons.2 ⟨rfl, List.forall_mem_cons.2 ⟨rfl, List.forall_mem_cons.2 ⟨cu, by simp⟩⟩⟩) ?_; intro w8 hm8 f7'; replace f7 := f7'; clear f7'; replace hd := hd.mod hm8 (fun j hj e => by have := hbd j hj; omega); replace hO := hO.other hm8 (fun j e => by omega); replace f6 := f6.mod hm8 n76; replace hS := hS.mod' hm8 (fun j hj e => by have := hvl j hj; omega); have hg8 := f7.lt; clear hm8; (try simp only [Act.put, List.setIfInBounds_toArray, List.set_cons_zero, List.set_cons_succ]))
        | ((try refine w_yes _ _ _ rfl rfl rfl ?_); refine w_field Try.stA _ _ _ rfl rfl rfl (by omega) ?_; (try simp only [Act.put, List.setIfInBounds_toArray, List.set_cons_zero, List.set_cons_succ]))
        | ((try refine w_yes _ _ _ rfl rfl rfl ?_); refine w_fload _ rfl rfl rfl f7 rfl (agg_of (by kernel_rfl)) ?_; (try simp only [Act.put, List.setIfInBounds_toArray, List.set_cons_zero, List.set_cons_succ]))
        | (refine w_bempty rfl rfl ?_; intro v1 wn B hB1 hBl hxn o1; have hB7 : g7 < B := Nat.lt_of_lt_of_le f7.lt hB1; replace hd := hd.ext hxn; replace hO := hO.extend hxn; replace f7 := f7.ext hxn; replace f6 := f6.ext hxn; replace hS := hS.ext hxn; clear hxn hB1; (try simp only [Act.put, List.setIfInBounds_toArray, List.set_cons_zero, List.set_cons_succ]))
        | (refine appb _ _ rfl rfl rfl rfl o1 (hu.ext hO.ext) (by have := hok.l; simp; omega) hBl ?_; intro v2 wa o2 hba hga; rw [List.nil_append] at o2; replace hd := hd.mod (Below.toMod hba) (fun j hj (e : B ≤ j) => by have := hbd j hj; omega); replace hO := hO.other (Below.toMod hba) (fun j (e : B ≤ j) => by omega); replace f7 := f7.below hba hB7; replace f6 := f6.below hba (by omega); replace hS := hS.mod' (Below.toMod hba) (fun j hj (e : B ≤ j) => by have := hvl j hj; omega); clear o1 hba hga; (try simp only [Act.put, List.setIfInBounds_toArray, List.set_cons_zero, List.set_cons_succ]))
        | (go_at_call 11; have n7 : ¬ F g7 := (fun h => by have := hbd g7 h; omega); have l6 := f6.lt; have l7 := f7.lt; have ol := World.ownsRow.lt o2; refine (Append_any hd o2.byt).mono ?_; rintro e wz ⟨F', rfl, hup, hd'⟩; replace f6 := f6.mod hup.mod n6; replace f7 := f7.mod hup.mod n7; replace hS := hS.updU hup; replace o2 : OwnB B wz v2 l[k].data := own_mod o2 hup.mod (fun j hj hF => by have := (ol j hj).1; have := hbd j hF; omega); replace hO := hO.upd hup; replace hd := hd'; replace n6 : ¬ F' g6 := (fun h => (hup.sub g6 h).elim n6 (fun e => by omega)); have nO : ∀ j, v2.ownBlock = some j → ¬ F' j := (fun j hj h => (hup.sub j h).elim (fun hF => by have := (ol j hj).1; have := hbd j hF; omega) (fun e => by have := (ol j hj).2; omega)); have n6O : v2.ownBlock ≠ some g6 := (fun e => by have := (ol g6 e).1; omega); have hSS : Safe (fun j => (F' j ∨ j = g6) ∨ v2.ownBlock = some j) wz vw (u8s D.l) := ⟨hS.sl, (fun j hj h => h.elim (hS.off j hj) (fun e => by have := (ol j e).1; have := hvl j hj; omega)), hS.lt⟩; clear hup hd'; (try simp only [Act.put, List.setIfInBounds_toArray, List.set_cons_zero, List.set_cons_succ]))
        | (refine w_aload Try.stR _ rfl rfl rfl f6 rfl ?_; (try simp only [Act.put, List.setIfInBounds_toArray, List.set_cons_zero, List.set_cons_succ]))
        | (go_at_call 14; have hbd' := hd.bd; have l6 := f6.lt; have ol2 := World.ownsRow.lt o2; refine (RAppend_any (l := l[k].data) (fun j hj => hj.elim (fun h => h.elim (hbd' j) (fun e => by omega)) (fun e => (ol2 j e).2)) (hu.ext hO.ext) (RD.made (D := D) hSS ho)).mono ?_; rintro e wr2 ⟨val, rfl, hxr, hR⟩; rw [hD2.out] at hR; obtain ⟨⟨vz, rfl, hZ⟩, _⟩ := hR; replace hO := hO.extend hxr; replace hd := hd.ext hxr; replace f6 := f6.ext hxr; replace f7 := f7.ext hxr; replace o2 := o2.ext hxr; have cz : vz.oneCell' = true := hZ.sl.one'; clear hS hSS hxr; (try simp only [Act.put, List.setIfInBounds_toArray, List.set_cons_zero, List.set_cons_succ]))
        | (refine w_astore Try.stR (us := [vz, .int .i64 D2.s, .int .i64 D2.lim]) _ _ rfl rfl rfl rfl rfl f6 rfl rfl (List.forall_mem_cons.2 ⟨cz, List.forall_mem_cons.2 ⟨rfl, List.forall_mem_cons.2 ⟨rfl, by simp⟩⟩⟩) ?_; intro wS hmS f6'; replace f6 := f6'; clear f6'; replace hd := hd.mod hmS (fun j hj e => n6 (e ▸ hj)); replace hO := hO.other hmS (fun j e => e ▸ hn6); have hS := hZ.mod' hmS (fun j hj e => hZ.off j hj (.inl (.inr e))); replace o2 := o2.mod_lt hmS (by omega : g6 < B); clear hmS hZ; (try simp only [Act.put, List.setIfInBounds_toArray, List.set_cons_zero, List.set_cons_succ]))
        | (refine b_len _ rfl rfl rfl o2.byt ?_; (try simp only [Act.put, List.setIfInBounds_toArray, List.set_cons_zero, List.set_cons_succ]))
        | fail)
      rw [hD2.out] at hd
      have r0 := hide_ (show Row (fun q => v2.ownBlock = some q) wS 5 v2 ((l[k].data.map fun n : Nat => (n : Int)).map (Value.int .u8)) from by
        have e : (l[k].data.map fun n : Nat => (n : Int)).map (Value.int .u8) = u8s l[k].data := by simp [u8s]
        rw [e]; exact ⟨own_mono o2 (Nat.zero_le _), fun _ h => h⟩)
      have hWO : ∀ q, v2.ownBlock = some q → W.heap.size ≤ q := fun q hq => by have := (World.ownsRow.lt o2 q hq).1; omega
      have hnd : l[k].data.length ≤ 140737488355328 := by have := hok.l; omega
      clear hbd hvl o2 f7
      go_loopw [55] (fun i wr2 => ∃ (j : Nat) (zs : List Int), i = .int .i64 j ∧ j ≤ l[k].data.length ∧ Hid (Row (fun q => v2.ownBlock = some q) wr2 5 v2 (zs.map (Value.int .u8))) ∧ zs.length = l[k].data.length ∧ Mod (fun q => v2.ownBlock = some q) wS wr2) (fun i _ => l[k].data.length - (intOf i).toNat)
      case atStart => exact ⟨0, _, rfl, Nat.zero_le _, r0, by simp, Mod.refl _ _⟩
      case round =>
        clear r0
        obtain ⟨j, zs, rfl, hj, oz, hzl, hmo⟩ := hrel
        by_cases hge2 : l[k].data.length ≤ j
        · have t2 : decide (j < l[k].data.length) = false := by simpa using hge2
          replace hd := hd.mod hmo (fun q hq e => nO q e hq)
          replace hO := hO.other hmo hWO
          replace f6 := f6.mod hmo n6O
          replace hS : Safe (fun q => F' q ∨ q = g6) _ vz (u8s D2.l) := (hS.mod' hmo (fun q hq e => hS.off q hq (.inr e))).weak (fun q _ h => .inl h)
          go_wp2
          refine wp_region_phx (by kernel_rfl) ?_; intro wd hxd; replace hd := hd.ext hxd; replace hO := hO.extend hxd; replace f6 := f6.ext hxd; replace hS := hS.ext hxd; have bz : Byt wd vz D2.l := hS.sl
          refine Ph.rest 0 26 (by kernel_rfl) ?_
          refine LinL.step (s := (.val (.int .i64 (D.err l[k].data : Nat)))) [(9, none)] rfl (by kernel_rfl) (op_out 9 (.int .i64 (D.err l[k].data : Nat)) rfl (.inl rfl) rfl) ?_
          refine LinL.step (s := (.val (.int .i64 (D.err l[k].data : Nat)))) [(10, none)] rfl (by kernel_rfl) (op_out 10 (.int .i64 (D.err l[k].data : Nat)) rfl (.inl rfl) rfl) ?_
          refine LinL.step (s := (.val (.bool false))) [(101, some 1), (102, some 0)] rfl (by kernel_rfl) (op_runs rfl fun σ w' hx hg => ⟨(.bool false), by have h101 : σ.tmps.getD 101 undef = .int .i64 (D.err l[k].data : Nat) := hg.1; have h102 : σ.tmps.getD 102 undef = .int .i64 (D.err l[k].data : Nat) := hg.2.1; unfold Runs execOp; simp [Act.eval, h101, h102, go_sem], rfl⟩) ?_
          refine LinL.step (s := (.val (.bool false))) [(103, some 0)] rfl (by kernel_rfl) (op_copy 103 0 (.val (.bool false)) rfl (.inl rfl) rfl) ?_
          refine LinL.step (s := (.val (.pointer (some A)))) [(5, none), (104, some 0)] rfl (by kernel_rfl) (op_yes (reads := [(5, none)]) 3 104 0 false rfl rfl rfl (op_out 5 (.pointer (some A)) rfl (.inl rfl) rfl)) ?_
          refine LinL.step (s := (.sl (u8s (D2.l)))) [(105, some 0), (104, some 1)] rfl (by kernel_rfl) (op_yes (reads := [(105, some 0)]) 3 104 1 false rfl rfl rfl (op_calls 22 #[(.tmp 105)] #[24] (fun σ => #[.pointer (some A)]) rfl rfl (fun _ _ => rfl) fun σ w' hx hg => ⟨by have h105 : σ.tmps.getD 105 undef = .pointer (some A) := hg.1; simp only [List.map_toArray, List.map_cons, List.map_nil, Act.eval, h105], (Bytes_any (hd.ext hx)).mono fun e w'' ⟨v, he, hx', hr⟩ => ⟨v, he, hx', hr.sl⟩⟩)) ?_
          refine LinL.step (s := (.val (.string (strN D2.l)))) [(106, some 0), (104, some 2)] rfl (by kernel_rfl) (op_yes (reads := [(106, some 0)]) 3 104 2 false rfl rfl rfl (op_runs rfl fun σ w' hx hg => ⟨_, runs_str (ρ := σ.eval) (w := w') (.tmp 106) rfl rfl hg.1, rfl⟩)) ?_
          refine LinL.step (s := (.val (.pointer (some ⟨g6, 0, none⟩)))) [(6, none), (104, some 3)] rfl (by kernel_rfl) (op_yes (reads := [(6, none)]) 3 104 3 false rfl rfl rfl (op_runs rfl fun σ w' hx hg => ⟨_, runs_field (ρ := σ.eval) (w := w') Try.stR (.tmp 6) g6 0 rfl hg.1 (by omega), rfl⟩)) ?_
          refine LinL.step (s := (.val (vz))) [(108, some 0), (104, some 4)] rfl (by kernel_rfl) (op_yes (reads := [(108, some 0)]) 3 104 4 false rfl rfl rfl (op_runs rfl fun σ w' hx hg => ⟨_, runs_fload (ρ := σ.eval) (w := w') (.tmp 108) rfl hg.1 (agg_of (by kernel_rfl) _) (f6.ext hx) rfl, rfl⟩)) ?_
          refine LinL.step (s := (.val (.string (strN D2.l)))) [(109, some 0), (104, some 5)] rfl (by kernel_rfl) (op_yes (reads := [(109, some 0)]) 3 104 5 false rfl rfl rfl (op_runs rfl fun σ w' hx hg => ⟨_, runs_str (ρ := σ.eval) (w := w') (.tmp 109) rfl hg.1 (bz.ext hx), rfl⟩)) ?_
          refine LinL.step (s := (.val (.bool false))) [(107, some 3), (110, some 0), (104, some 6)] rfl (by kernel_rfl) (op_yes (reads := [(107, some 3), (110, some 0)]) 3 104 6 false rfl rfl rfl (op_runs rfl fun σ w' hx hg => ⟨(.bool false), by have h107 : σ.tmps.getD 107 undef = .string (strN D2.l) := hg.1; have h110 : σ.tmps.getD 110 undef = .string (strN D2.l) := hg.2.1; unfold Runs execOp; simp [Act.eval, h107, h110, go_sem], rfl⟩)) ?_
          refine LinL.step (s := (.val (.bool false))) [(104, some 7), (111, some 0)] rfl (by kernel_rfl) (op_runs rfl fun σ w' hx hg => ⟨_, runs_pick_f (ρ := σ.eval) (w := w') (.tmp 104) (.const (.bool true)) (.tmp 111) rfl hg.1 hg.2.1, rfl⟩) ?_
          refine LinL.step (s := (.val (.bool false))) [(112, some 0)] rfl (by kernel_rfl) (op_copy 112 0 (.val (.bool false)) rfl (.inl rfl) rfl) ?_
          refine LinL.step (s := (.val (.pointer (some A)))) [(5, none), (113, some 0)] rfl (by kernel_rfl) (op_yes (reads := [(5, none)]) 12 113 0 false rfl rfl rfl (op_out 5 (.pointer (some A)) rfl (.inl rfl) rfl)) ?_
          refine LinL.step (s := (.val (.int .i64 (D2.s : Nat)))) [(114, some 0), (113, some 1)] rfl (by kernel_rfl) (op_yes (reads := [(114, some 0)]) 12 113 1 false rfl rfl rfl (op_calls 23 #[(.tmp 114)] #[24] (fun σ => #[.pointer (some A)]) rfl rfl (fun _ _ => rfl) fun σ w' hx hg => ⟨by have h114 : σ.tmps.getD 114 undef = .pointer (some A) := hg.1; simp only [List.map_toArray, List.map_cons, List.map_nil, Act.eval, h114], (Synced_any (hd.ext hx)).mono fun e w'' h => ⟨_, h.1, h.2 ▸ Ext.refl _, rfl⟩⟩)) ?_
          refine LinL.step (s := (.val (.pointer (some ⟨g6, 1, none⟩)))) [(6, none), (113, some 2)] rfl (by kernel_rfl) (op_yes (reads := [(6, none)]) 12 113 2 false rfl rfl rfl (op_runs rfl fun σ w' hx hg => ⟨_, runs_field (ρ := σ.eval) (w := w') Try.stR (.tmp 6) g6 1 rfl hg.1 (by omega), rfl⟩)) ?_
          refine LinL.step (s := (.val (.int .i64 (D2.s : Nat)))) [(116, some 0), (113, some 3)] rfl (by kernel_rfl) (op_yes (reads := [(116, some 0)]) 12 113 3 false rfl rfl rfl (op_runs rfl fun σ w' hx hg => ⟨_, runs_fload (ρ := σ.eval) (w := w') (.tmp 116) rfl hg.1 (agg_of (by kernel_rfl) _) (f6.ext hx) rfl, rfl⟩)) ?_
          refine LinL.step (s := (.val (.bool false))) [(115, some 2), (117, some 0), (113, some 4)] rfl (by kernel_rfl) (op_yes (reads := [(115, some 2), (117, some 0)]) 12 113 4 false rfl rfl rfl (op_runs rfl fun σ w' hx hg => ⟨(.bool false), by have h115 : σ.tmps.getD 115 undef = .int .i64 (D2.s : Nat) := hg.1; have h117 : σ.tmps.getD 117 undef = .int .i64 (D2.s : Nat) := hg.2.1; unfold Runs execOp; simp [Act.eval, h115, h117, go_sem], rfl⟩)) ?_
          refine LinL.step (s := (.val (.bool false))) [(113, some 5), (118, some 0)] rfl (by kernel_rfl) (op_runs rfl fun σ w' hx hg => ⟨_, runs_pick_f (ρ := σ.eval) (w := w') (.tmp 113) (.const (.bool true)) (.tmp 118) rfl hg.1 hg.2.1, rfl⟩) ?_
          refine LinL.step (s := (.val (.bool false))) [(119, some 0)] rfl (by kernel_rfl) (op_copy 119 0 (.val (.bool false)) rfl (.inl rfl) rfl) ?_
          refine LinL.step (s := (.val (.pointer (some A)))) [(5, none), (120, some 0)] rfl (by kernel_rfl) (op_yes (reads := [(5, none)]) 19 120 0 false rfl rfl rfl (op_out 5 (.pointer (some A)) rfl (.inl rfl) rfl)) ?_
          refine LinL.step (s := (.val (.int .i64 (D2.room : Nat)))) [(121, some 0), (120, some 1)] rfl (by kernel_rfl) (op_yes (reads := [(121, some 0)]) 19 120 1 false rfl rfl rfl (op_calls 12 #[(.tmp 121)] #[24] (fun σ => #[.pointer (some A)]) rfl rfl (fun _ _ => rfl) fun σ w' hx hg => ⟨by have h121 : σ.tmps.getD 121 undef = .pointer (some A) := hg.1; simp only [List.map_toArray, List.map_cons, List.map_nil, Act.eval, h121], (Room_any (hd.ext hx)).mono fun e w'' h => ⟨_, h.1, h.2, rfl⟩⟩)) ?_
          refine LinL.step (s := (.val (.agg #[vz, .int .i64 (D2.s : Nat), .int .i64 (D2.lim : Nat)]))) [(6, none), (120, some 2)] rfl (by kernel_rfl) (op_yes (reads := [(6, none)]) 19 120 2 false rfl rfl rfl (op_runs rfl fun σ w' hx hg => ⟨_, runs_aload (ρ := σ.eval) (w := w') Try.stR (.tmp 6) rfl hg.1 (f6.ext hx) rfl, rfl⟩)) ?_
          refine LinL.step (s := (.val (.int .i64 (D2.room : Nat)))) [(123, some 0), (120, some 3)] rfl (by kernel_rfl) (op_yes (reads := [(123, some 0)]) 19 120 3 false rfl rfl rfl (op_calls 24 #[(.tmp 123)] #[31] (fun σ => #[.agg #[vz, .int .i64 (D2.s : Nat), .int .i64 (D2.lim : Nat)]]) rfl rfl (fun _ _ => rfl) fun σ w' hx hg => ⟨by have h123 : σ.tmps.getD 123 undef = .agg #[vz, .int .i64 (D2.s : Nat), .int .i64 (D2.lim : Nat)] := hg.1; simp only [List.map_toArray, List.map_cons, List.map_nil, Act.eval, h123], (RRoom_any (RD.made (D := D2) (hS.ext hx) ho2.out)).mono fun e w'' h => ⟨_, h.1, h.2, rfl⟩⟩)) ?_
          refine LinL.step (s := (.val (.bool false))) [(122, some 2), (124, some 0), (120, some 4)] rfl (by kernel_rfl) (op_yes (reads := [(122, some 2), (124, some 0)]) 19 120 4 false rfl rfl rfl (op_runs rfl fun σ w' hx hg => ⟨(.bool false), by have h122 : σ.tmps.getD 122 undef = .int .i64 (D2.room : Nat) := hg.1; have h124 : σ.tmps.getD 124 undef = .int .i64 (D2.room : Nat) := hg.2.1; unfold Runs execOp; simp [Act.eval, h122, h124, go_sem], rfl⟩)) ?_
          refine LinL.step (s := (.val (.bool false))) [(120, some 5), (125, some 0)] rfl (by kernel_rfl) (op_runs rfl fun σ w' hx hg => ⟨_, runs_pick_f (ρ := σ.eval) (w := w') (.tmp 120) (.const (.bool true)) (.tmp 125) rfl hg.1 hg.2.1, rfl⟩) ?_
          intro wN hxN
          simp only [Fin', List.reverse_cons, List.reverse_nil, List.nil_append, List.cons_append, List.drop_zero, List.drop_succ_cons, List.take_succ_cons, List.take_zero]
          intro q106 hq106
          simp only [Act.put, List.setIfInBounds_toArray, List.set_cons_zero, List.set_cons_succ]
          go_wp2
          go_roundw
          case rel => exact ⟨k + 1, _, D2, vz, by go_num, by omega, hd.ext hxN, hO.extend hxN, f6.ext hxN, hS.ext hxN, n6⟩
          case measure => simp [intOf]; omega
        · have hjl : j < l[k].data.length := by omega
          have hjz : j < zs.length := by omega
          have t2 : decide (j < l[k].data.length) = true := by simpa using hjl
          clear hge2
          go_wp2_with (first
            | (refine w_idx Try.elB (o := ⟨some 60, _, _, _, _, _⟩) (.tmp 58) (.tmp 59) j rfl rfl rfl oz.out.sl rfl (by simpa using hjz) ?_; intro ad had; simp only [List.getElem_map] at had; (try simp only [Act.put, List.setIfInBounds_toArray, List.set_cons_zero, List.set_cons_succ]))
            | (refine w_oidx Try.elB (o := ⟨some 63, _, _, _, _, _⟩) (.tmp 58) (.tmp 59) rfl rfl rfl oz.out.own rfl (by simpa using hjz) ?_; intro g hg hgB hgl; (try simp only [Act.put, List.setIfInBounds_toArray, List.set_cons_zero, List.set_cons_succ]))
            | (refine w_rstore Try.elB (.tmp 63) (.tmp 62) rfl rfl rfl rfl rfl rfl oz.out hg (by simpa using hjz) ?_; intro w9 hm9 r9; (try simp only [Act.put, List.setIfInBounds_toArray, List.set_cons_zero, List.set_cons_succ]))
            | fail)
          go_roundw
          case rel => exact ⟨j + 1, zs.set j _, by go_num, by omega, hide_ (by rw [List.map_set]; exact r9), by simpa using hzl, hmo.trans hm9 (fun _ _ h => h)⟩
          case measure => simp [intOf]; omega
    by_cases hk1 : l[k].k = 1
    · have hc0 : (l[k].k == 0) = false := by rw [beq_eq_false_iff_ne]; omega
      have hc1 : (l[k].k == 1) = true := by rw [beq_iff_eq]; exact hk1
      obtain ⟨D2, hD2⟩ : ∃ D2, D2 = D.sync := ⟨_, rfl⟩
      have ho2 := hide_ (show D2.Ok from hD2 ▸ ho.sync)
      replace hD2 := hide_ hD2.symm
      clear hk0 hk1
      go_wp2_with (first
        | (refine w_ridx0 Try.elA _ _ k ActR.stays rfl rfl rfl rfl hl hO.ext hlt ?_; rintro p row hrow hrl ⟨⟨u, rfl, hu⟩, hok⟩; have cu : u.oneCell' = true := hu.one'; (try simp only [Act.put, List.setIfInBounds_toArray, List.set_cons_zero, List.set_cons_succ]))
        | (refine w_pload Try.stA _ rfl rfl rfl (hrow.ext hO.ext) rfl ?_; (try simp only [Act.put, List.setIfInBounds_toArray, List.set_cons_zero, List.set_cons_succ]))
        | (refine w_alloc Try.stA rfl rfl ?_; intro g7 w7 hg7 hx7 f7; replace hd := hd.ext hx7; replace hO := hO.extend hx7; replace f6 := f6.ext hx7; replace hS := hS.ext hx7; have n76 : g6 ≠ g7 := (by omega); (try simp only [Act.put, List.setIfInBounds_toArray, List.set_cons_zero, List.set_cons_succ]))
        | (refine w_astore Try.stA (us := [.int .i64 l[k].k, .int .i64 l[k].n, u]) _ _ rfl rfl rfl rfl rfl f7 rfl rfl (List.forall_mem_cons.2 ⟨rfl, List.forall_mem_cons.2 ⟨rfl, List.forall_mem_cons.2 ⟨cu, by simp⟩⟩⟩) ?_; intro w8 hm8 f7'; replace f7 := f7'; clear f7'; replace hd := hd.mod hm8 (fun j hj e => by have := hbd j hj; omega); replace hO := hO.other hm8 (fun j e => by omega); replace f6 := f6.mod hm8 n76; replace hS := hS.mod' hm8 (fun j hj e => by have := hvl j hj; omega); have hg8 := f7.lt; clear hm8; (try simp only [Act.put, List.setIfInBounds_toArray, List.set_cons_zero, List.set_cons_succ]))
        | ((try refine w_yes _ _ _ rfl rfl rfl ?_); refine w_field Try.stA _ _ _ rfl rfl rfl (by omega) ?_; (try simp only [Act.put, List.setIfInBounds_toArray, List.set_cons_zero, List.set_cons_succ]))
        | ((try refine w_yes _ _ _ rfl rfl rfl ?_); refine w_fload _ rfl rfl rfl f7 rfl (agg_of (by kernel_rfl)) ?_; (try simp only [Act.put, List.setIfInBounds_toArray, List.set_cons_zero, List.set_cons_succ]))
        | (go_at_call 15; have n7 : ¬ F g7 := (fun h => by have := hbd g7 h; omega); have hO7 : wr.heap.size ≤ w8.heap.size := (by omega); refine (Sync_any hd).mono ?_; rintro e wz ⟨rfl, hm, hd'⟩; replace hO7 := Nat.le_trans hO7 hm.size; replace hO := hO.upd hm.upd; replace hd := hd'; replace f6 := f6.mod hm n6; replace f7 := f7.mod hm n7; replace hS := hS.mod' hm (fun j hj e => hS.off j hj (.inl e)); clear hd' hm; (try simp only [Act.put, List.setIfInBounds_toArray, List.set_cons_zero, List.set_cons_succ]))
        | (refine w_aload Try.stR _ rfl rfl rfl f6 rfl ?_; (try simp only [Act.put, List.setIfInBounds_toArray, List.set_cons_zero, List.set_cons_succ]))
        | (go_at_call 16; refine (RSync_any (RD.made (D := D) hS ho)).mono ?_; rintro e wr2 ⟨val, rfl, hxr, hR⟩; rw [hD2.out] at hR; obtain ⟨⟨vz, rfl, hZ⟩, _⟩ := hR; replace hO := hO.extend hxr; replace hd := hd.ext hxr; replace f6 := f6.ext hxr; replace f7 := f7.ext hxr; have cz : vz.oneCell' = true := hZ.sl.one'; (try simp only [Act.put, List.setIfInBounds_toArray, List.set_cons_zero, List.set_cons_succ]))
        | (refine w_astore Try.stR (us := [vz, .int .i64 D2.s, .int .i64 D2.lim]) _ _ rfl rfl rfl rfl rfl f6 rfl rfl (List.forall_mem_cons.2 ⟨cz, List.forall_mem_cons.2 ⟨rfl, List.forall_mem_cons.2 ⟨rfl, by simp⟩⟩⟩) ?_; intro wS hmS f6'; replace f6 := f6'; clear f6'; replace hd := hd.mod hmS (fun j hj e => n6 (e ▸ hj)); replace hO := hO.other hmS (fun j e => e ▸ hn6); replace hS := hZ.mod' hmS (fun j hj e => hZ.off j hj (.inr e)); clear hmS hZ; (try simp only [Act.put, List.setIfInBounds_toArray, List.set_cons_zero, List.set_cons_succ]))
        | fail)
      rw [hD2.out] at hd
      refine wp_region_phx (by kernel_rfl) ?_; intro wd hxd; replace hd := hd.ext hxd; replace hO := hO.extend hxd; replace f6 := f6.ext hxd; replace hS := hS.ext hxd; have bz : Byt wd vz D2.l := hS.sl
      refine Ph.rest 0 26 (by kernel_rfl) ?_
      refine LinL.step (s := (.val (.int .i64 0))) [(9, none)] rfl (by kernel_rfl) (op_out 9 (.int .i64 0) rfl (.inl rfl) rfl) ?_
      refine LinL.step (s := (.val (.int .i64 0))) [(10, none)] rfl (by kernel_rfl) (op_out 10 (.int .i64 0) rfl (.inl rfl) rfl) ?_
      refine LinL.step (s := (.val (.bool false))) [(101, some 1), (102, some 0)] rfl (by kernel_rfl) (op_runs rfl fun σ w' hx hg => ⟨(.bool false), by have h101 : σ.tmps.getD 101 undef = .int .i64 0 := hg.1; have h102 : σ.tmps.getD 102 undef = .int .i64 0 := hg.2.1; unfold Runs execOp; simp [Act.eval, h101, h102, go_sem], rfl⟩) ?_
      refine LinL.step (s := (.val (.bool false))) [(103, some 0)] rfl (by kernel_rfl) (op_copy 103 0 (.val (.bool false)) rfl (.inl rfl) rfl) ?_
      refine LinL.step (s := (.val (.pointer (some A)))) [(5, none), (104, some 0)] rfl (by kernel_rfl) (op_yes (reads := [(5, none)]) 3 104 0 false rfl rfl rfl (op_out 5 (.pointer (some A)) rfl (.inl rfl) rfl)) ?_
      refine LinL.step (s := (.sl (u8s (D2.l)))) [(105, some 0), (104, some 1)] rfl (by kernel_rfl) (op_yes (reads := [(105, some 0)]) 3 104 1 false rfl rfl rfl (op_calls 22 #[(.tmp 105)] #[24] (fun σ => #[.pointer (some A)]) rfl rfl (fun _ _ => rfl) fun σ w' hx hg => ⟨by have h105 : σ.tmps.getD 105 undef = .pointer (some A) := hg.1; simp only [List.map_toArray, List.map_cons, List.map_nil, Act.eval, h105], (Bytes_any (hd.ext hx)).mono fun e w'' ⟨v, he, hx', hr⟩ => ⟨v, he, hx', hr.sl⟩⟩)) ?_
      refine LinL.step (s := (.val (.string (strN D2.l)))) [(106, some 0), (104, some 2)] rfl (by kernel_rfl) (op_yes (reads := [(106, some 0)]) 3 104 2 false rfl rfl rfl (op_runs rfl fun σ w' hx hg => ⟨_, runs_str (ρ := σ.eval) (w := w') (.tmp 106) rfl rfl hg.1, rfl⟩)) ?_
      refine LinL.step (s := (.val (.pointer (some ⟨g6, 0, none⟩)))) [(6, none), (104, some 3)] rfl (by kernel_rfl) (op_yes (reads := [(6, none)]) 3 104 3 false rfl rfl rfl (op_runs rfl fun σ w' hx hg => ⟨_, runs_field (ρ := σ.eval) (w := w') Try.stR (.tmp 6) g6 0 rfl hg.1 (by omega), rfl⟩)) ?_
      refine LinL.step (s := (.val (vz))) [(108, some 0), (104, some 4)] rfl (by kernel_rfl) (op_yes (reads := [(108, some 0)]) 3 104 4 false rfl rfl rfl (op_runs rfl fun σ w' hx hg => ⟨_, runs_fload (ρ := σ.eval) (w := w') (.tmp 108) rfl hg.1 (agg_of (by kernel_rfl) _) (f6.ext hx) rfl, rfl⟩)) ?_
      refine LinL.step (s := (.val (.string (strN D2.l)))) [(109, some 0), (104, some 5)] rfl (by kernel_rfl) (op_yes (reads := [(109, some 0)]) 3 104 5 false rfl rfl rfl (op_runs rfl fun σ w' hx hg => ⟨_, runs_str (ρ := σ.eval) (w := w') (.tmp 109) rfl hg.1 (bz.ext hx), rfl⟩)) ?_
      refine LinL.step (s := (.val (.bool false))) [(107, some 3), (110, some 0), (104, some 6)] rfl (by kernel_rfl) (op_yes (reads := [(107, some 3), (110, some 0)]) 3 104 6 false rfl rfl rfl (op_runs rfl fun σ w' hx hg => ⟨(.bool false), by have h107 : σ.tmps.getD 107 undef = .string (strN D2.l) := hg.1; have h110 : σ.tmps.getD 110 undef = .string (strN D2.l) := hg.2.1; unfold Runs execOp; simp [Act.eval, h107, h110, go_sem], rfl⟩)) ?_
      refine LinL.step (s := (.val (.bool false))) [(104, some 7), (111, some 0)] rfl (by kernel_rfl) (op_runs rfl fun σ w' hx hg => ⟨_, runs_pick_f (ρ := σ.eval) (w := w') (.tmp 104) (.const (.bool true)) (.tmp 111) rfl hg.1 hg.2.1, rfl⟩) ?_
      refine LinL.step (s := (.val (.bool false))) [(112, some 0)] rfl (by kernel_rfl) (op_copy 112 0 (.val (.bool false)) rfl (.inl rfl) rfl) ?_
      refine LinL.step (s := (.val (.pointer (some A)))) [(5, none), (113, some 0)] rfl (by kernel_rfl) (op_yes (reads := [(5, none)]) 12 113 0 false rfl rfl rfl (op_out 5 (.pointer (some A)) rfl (.inl rfl) rfl)) ?_
      refine LinL.step (s := (.val (.int .i64 (D2.s : Nat)))) [(114, some 0), (113, some 1)] rfl (by kernel_rfl) (op_yes (reads := [(114, some 0)]) 12 113 1 false rfl rfl rfl (op_calls 23 #[(.tmp 114)] #[24] (fun σ => #[.pointer (some A)]) rfl rfl (fun _ _ => rfl) fun σ w' hx hg => ⟨by have h114 : σ.tmps.getD 114 undef = .pointer (some A) := hg.1; simp only [List.map_toArray, List.map_cons, List.map_nil, Act.eval, h114], (Synced_any (hd.ext hx)).mono fun e w'' h => ⟨_, h.1, h.2 ▸ Ext.refl _, rfl⟩⟩)) ?_
      refine LinL.step (s := (.val (.pointer (some ⟨g6, 1, none⟩)))) [(6, none), (113, some 2)] rfl (by kernel_rfl) (op_yes (reads := [(6, none)]) 12 113 2 false rfl rfl rfl (op_runs rfl fun σ w' hx hg => ⟨_, runs_field (ρ := σ.eval) (w := w') Try.stR (.tmp 6) g6 1 rfl hg.1 (by omega), rfl⟩)) ?_
      refine LinL.step (s := (.val (.int .i64 (D2.s : Nat)))) [(116, some 0), (113, some 3)] rfl (by kernel_rfl) (op_yes (reads := [(116, some 0)]) 12 113 3 false rfl rfl rfl (op_runs rfl fun σ w' hx hg => ⟨_, runs_fload (ρ := σ.eval) (w := w') (.tmp 116) rfl hg.1 (agg_of (by kernel_rfl) _) (f6.ext hx) rfl, rfl⟩)) ?_
      refine LinL.step (s := (.val (.bool false))) [(115, some 2), (117, some 0), (113, some 4)] rfl (by kernel_rfl) (op_yes (reads := [(115, some 2), (117, some 0)]) 12 113 4 false rfl rfl rfl (op_runs rfl fun σ w' hx hg => ⟨(.bool false), by have h115 : σ.tmps.getD 115 undef = .int .i64 (D2.s : Nat) := hg.1; have h117 : σ.tmps.getD 117 undef = .int .i64 (D2.s : Nat) := hg.2.1; unfold Runs execOp; simp [Act.eval, h115, h117, go_sem], rfl⟩)) ?_
      refine LinL.step (s := (.val (.bool false))) [(113, some 5), (118, some 0)] rfl (by kernel_rfl) (op_runs rfl fun σ w' hx hg => ⟨_, runs_pick_f (ρ := σ.eval) (w := w') (.tmp 113) (.const (.bool true)) (.tmp 118) rfl hg.1 hg.2.1, rfl⟩) ?_
      refine LinL.step (s := (.val (.bool false))) [(119, some 0)] rfl (by kernel_rfl) (op_copy 119 0 (.val (.bool false)) rfl (.inl rfl) rfl) ?_
      refine LinL.step (s := (.val (.pointer (some A)))) [(5, none), (120, some 0)] rfl (by kernel_rfl) (op_yes (reads := [(5, none)]) 19 120 0 false rfl rfl rfl (op_out 5 (.pointer (some A)) rfl (.inl rfl) rfl)) ?_
      refine LinL.step (s := (.val (.int .i64 (D2.room : Nat)))) [(121, some 0), (120, some 1)] rfl (by kernel_rfl) (op_yes (reads := [(121, some 0)]) 19 120 1 false rfl rfl rfl (op_calls 12 #[(.tmp 121)] #[24] (fun σ => #[.pointer (some A)]) rfl rfl (fun _ _ => rfl) fun σ w' hx hg => ⟨by have h121 : σ.tmps.getD 121 undef = .pointer (some A) := hg.1; simp only [List.map_toArray, List.map_cons, List.map_nil, Act.eval, h121], (Room_any (hd.ext hx)).mono fun e w'' h => ⟨_, h.1, h.2, rfl⟩⟩)) ?_
      refine LinL.step (s := (.val (.agg #[vz, .int .i64 (D2.s : Nat), .int .i64 (D2.lim : Nat)]))) [(6, none), (120, some 2)] rfl (by kernel_rfl) (op_yes (reads := [(6, none)]) 19 120 2 false rfl rfl rfl (op_runs rfl fun σ w' hx hg => ⟨_, runs_aload (ρ := σ.eval) (w := w') Try.stR (.tmp 6) rfl hg.1 (f6.ext hx) rfl, rfl⟩)) ?_
      refine LinL.step (s := (.val (.int .i64 (D2.room : Nat)))) [(123, some 0), (120, some 3)] rfl (by kernel_rfl) (op_yes (reads := [(123, some 0)]) 19 120 3 false rfl rfl rfl (op_calls 24 #[(.tmp 123)] #[31] (fun σ => #[.agg #[vz, .int .i64 (D2.s : Nat), .int .i64 (D2.lim : Nat)]]) rfl rfl (fun _ _ => rfl) fun σ w' hx hg => ⟨by have h123 : σ.tmps.getD 123 undef = .agg #[vz, .int .i64 (D2.s : Nat), .int .i64 (D2.lim : Nat)] := hg.1; simp only [List.map_toArray, List.map_cons, List.map_nil, Act.eval, h123], (RRoom_any (RD.made (D := D2) (hS.ext hx) ho2.out)).mono fun e w'' h => ⟨_, h.1, h.2, rfl⟩⟩)) ?_
      refine LinL.step (s := (.val (.bool false))) [(122, some 2), (124, some 0), (120, some 4)] rfl (by kernel_rfl) (op_yes (reads := [(122, some 2), (124, some 0)]) 19 120 4 false rfl rfl rfl (op_runs rfl fun σ w' hx hg => ⟨(.bool false), by have h122 : σ.tmps.getD 122 undef = .int .i64 (D2.room : Nat) := hg.1; have h124 : σ.tmps.getD 124 undef = .int .i64 (D2.room : Nat) := hg.2.1; unfold Runs execOp; simp [Act.eval, h122, h124, go_sem], rfl⟩)) ?_
      refine LinL.step (s := (.val (.bool false))) [(120, some 5), (125, some 0)] rfl (by kernel_rfl) (op_runs rfl fun σ w' hx hg => ⟨_, runs_pick_f (ρ := σ.eval) (w := w') (.tmp 120) (.const (.bool true)) (.tmp 125) rfl hg.1 hg.2.1, rfl⟩) ?_
      intro wN hxN
      simp only [Fin', List.reverse_cons, List.reverse_nil, List.nil_append, List.cons_append, List.drop_zero, List.drop_succ_cons, List.take_succ_cons, List.take_zero]
      intro q106 hq106
      simp only [Act.put, List.setIfInBounds_toArray, List.set_cons_zero, List.set_cons_succ]
      go_wp2
      go_roundw
      case rel => exact ⟨k + 1, _, D2, vz, by go_num, by omega, hd.ext hxN, hO.extend hxN, f6.ext hxN, hS.ext hxN, n6⟩
      case measure => simp [intOf]; omega
    by_cases hk2 : l[k].k = 2
    · have hc0 : (l[k].k == 0) = false := by rw [beq_eq_false_iff_ne]; omega
      have hc1 : (l[k].k == 1) = false := by rw [beq_eq_false_iff_ne]; omega
      have hc2 : (l[k].k == 2) = true := by rw [beq_iff_eq]; exact hk2
      obtain ⟨D2, hD2⟩ : ∃ D2, D2 = D.crash l[k].n := ⟨_, rfl⟩
      have ho2 := hide_ (show D2.Ok from hD2 ▸ (ho.crash _))
      replace hD2 := hide_ hD2.symm
      clear hk0 hk1 hk2
      go_wp2_with (first
        | (refine w_ridx0 Try.elA _ _ k ActR.stays rfl rfl rfl rfl hl hO.ext hlt ?_; rintro p row hrow hrl ⟨⟨u, rfl, hu⟩, hok⟩; have cu : u.oneCell' = true := hu.one'; (try simp only [Act.put, List.setIfInBounds_toArray, List.set_cons_zero, List.set_cons_succ]))
        | (refine w_pload Try.stA _ rfl rfl rfl (hrow.ext hO.ext) rfl ?_; (try simp only [Act.put, List.setIfInBounds_toArray, List.set_cons_zero, List.set_cons_succ]))
        | (refine w_alloc Try.stA rfl rfl ?_; intro g7 w7 hg7 hx7 f7; replace hd := hd.ext hx7; replace hO := hO.extend hx7; replace f6 := f6.ext hx7; replace hS := hS.ext hx7; have n76 : g6 ≠ g7 := (by omega); (try simp only [Act.put, List.setIfInBounds_toArray, List.set_cons_zero, List.set_cons_succ]))
        | (refine w_astore Try.stA (us := [.int .i64 l[k].k, .int .i64 l[k].n, u]) _ _ rfl rfl rfl rfl rfl f7 rfl rfl (List.forall_mem_cons.2 ⟨rfl, List.forall_mem_cons.2 ⟨rfl, List.forall_mem_cons.2 ⟨cu, by simp⟩⟩⟩) ?_; intro w8 hm8 f7'; replace f7 := f7'; clear f7'; replace hd := hd.mod hm8 (fun j hj e => by have := hbd j hj; omega); replace hO := hO.other hm8 (fun j e => by omega); replace f6 := f6.mod hm8 n76; replace hS := hS.mod' hm8 (fun j hj e => by have := hvl j hj; omega); have hg8 := f7.lt; clear hm8; (try simp only [Act.put, List.setIfInBounds_toArray, List.set_cons_zero, List.set_cons_succ]))
        | ((try refine w_yes _ _ _ rfl rfl rfl ?_); refine w_field Try.stA _ _ _ rfl rfl rfl (by omega) ?_; (try simp only [Act.put, List.setIfInBounds_toArray, List.set_cons_zero, List.set_cons_succ]))
        | ((try refine w_yes _ _ _ rfl rfl rfl ?_); refine w_fload _ rfl rfl rfl f7 rfl (agg_of (by kernel_rfl)) ?_; (try simp only [Act.put, List.setIfInBounds_toArray, List.set_cons_zero, List.set_cons_succ]))
        | (go_at_call 17; have n7 : ¬ F g7 := (fun h => by have := hbd g7 h; omega); have hO7 : wr.heap.size ≤ w8.heap.size := (by omega); refine (Crash_any _ hd).mono ?_; rintro e wz ⟨rfl, hm, hd'⟩; replace hO7 := Nat.le_trans hO7 hm.size; replace hO := hO.upd hm.upd; replace hd := hd'; replace f6 := f6.mod hm n6; replace f7 := f7.mod hm n7; replace hS := hS.mod' hm (fun j hj e => hS.off j hj (.inl e)); clear hd' hm; (try simp only [Act.put, List.setIfInBounds_toArray, List.set_cons_zero, List.set_cons_succ]))
        | (refine w_aload Try.stR _ rfl rfl rfl f6 rfl ?_; (try simp only [Act.put, List.setIfInBounds_toArray, List.set_cons_zero, List.set_cons_succ]))
        | (go_at_call 18; refine (RCrash_any _ (fun j (hj : F j ∨ j = g6) => hj.elim (fun h => Nat.lt_of_lt_of_le (hbd j h) hO7) (fun h => by have := f6.lt; omega)) (RD.made (D := D) hS ho)).mono ?_; rintro e wr2 ⟨val, rfl, hxr, hR⟩; rw [hD2.out] at hR; obtain ⟨⟨vz, rfl, hZ⟩, _⟩ := hR; replace hO := hO.extend hxr; replace hd := hd.ext hxr; replace f6 := f6.ext hxr; replace f7 := f7.ext hxr; have cz : vz.oneCell' = true := hZ.sl.one'; (try simp only [Act.put, List.setIfInBounds_toArray, List.set_cons_zero, List.set_cons_succ]))
        | (refine w_astore Try.stR (us := [vz, .int .i64 D2.s, .int .i64 D2.lim]) _ _ rfl rfl rfl rfl rfl f6 rfl rfl (List.forall_mem_cons.2 ⟨cz, List.forall_mem_cons.2 ⟨rfl, List.forall_mem_cons.2 ⟨rfl, by simp⟩⟩⟩) ?_; intro wS hmS f6'; replace f6 := f6'; clear f6'; replace hd := hd.mod hmS (fun j hj e => n6 (e ▸ hj)); replace hO := hO.other hmS (fun j e => e ▸ hn6); replace hS := hZ.mod' hmS (fun j hj e => hZ.off j hj (.inr e)); clear hmS hZ; (try simp only [Act.put, List.setIfInBounds_toArray, List.set_cons_zero, List.set_cons_succ]))
        | fail)
      rw [hD2.out] at hd
      refine wp_region_phx (by kernel_rfl) ?_; intro wd hxd; replace hd := hd.ext hxd; replace hO := hO.extend hxd; replace f6 := f6.ext hxd; replace hS := hS.ext hxd; have bz : Byt wd vz D2.l := hS.sl
      refine Ph.rest 0 26 (by kernel_rfl) ?_
      refine LinL.step (s := (.val (.int .i64 0))) [(9, none)] rfl (by kernel_rfl) (op_out 9 (.int .i64 0) rfl (.inl rfl) rfl) ?_
      refine LinL.step (s := (.val (.int .i64 0))) [(10, none)] rfl (by kernel_rfl) (op_out 10 (.int .i64 0) rfl (.inl rfl) rfl) ?_
      refine LinL.step (s := (.val (.bool false))) [(101, some 1), (102, some 0)] rfl (by kernel_rfl) (op_runs rfl fun σ w' hx hg => ⟨(.bool false), by have h101 : σ.tmps.getD 101 undef = .int .i64 0 := hg.1; have h102 : σ.tmps.getD 102 undef = .int .i64 0 := hg.2.1; unfold Runs execOp; simp [Act.eval, h101, h102, go_sem], rfl⟩) ?_
      refine LinL.step (s := (.val (.bool false))) [(103, some 0)] rfl (by kernel_rfl) (op_copy 103 0 (.val (.bool false)) rfl (.inl rfl) rfl) ?_
      refine LinL.step (s := (.val (.pointer (some A)))) [(5, none), (104, some 0)] rfl (by kernel_rfl) (op_yes (reads := [(5, none)]) 3 104 0 false rfl rfl rfl (op_out 5 (.pointer (some A)) rfl (.inl rfl) rfl)) ?_
      refine LinL.step (s := (.sl (u8s (D2.l)))) [(105, some 0), (104, some 1)] rfl (by kernel_rfl) (op_yes (reads := [(105, some 0)]) 3 104 1 false rfl rfl rfl (op_calls 22 #[(.tmp 105)] #[24] (fun σ => #[.pointer (some A)]) rfl rfl (fun _ _ => rfl) fun σ w' hx hg => ⟨by have h105 : σ.tmps.getD 105 undef = .pointer (some A) := hg.1; simp only [List.map_toArray, List.map_cons, List.map_nil, Act.eval, h105], (Bytes_any (hd.ext hx)).mono fun e w'' ⟨v, he, hx', hr⟩ => ⟨v, he, hx', hr.sl⟩⟩)) ?_
      refine LinL.step (s := (.val (.string (strN D2.l)))) [(106, some 0), (104, some 2)] rfl (by kernel_rfl) (op_yes (reads := [(106, some 0)]) 3 104 2 false rfl rfl rfl (op_runs rfl fun σ w' hx hg => ⟨_, runs_str (ρ := σ.eval) (w := w') (.tmp 106) rfl rfl hg.1, rfl⟩)) ?_
      refine LinL.step (s := (.val (.pointer (some ⟨g6, 0, none⟩)))) [(6, none), (104, some 3)] rfl (by kernel_rfl) (op_yes (reads := [(6, none)]) 3 104 3 false rfl rfl rfl (op_runs rfl fun σ w' hx hg => ⟨_, runs_field (ρ := σ.eval) (w := w') Try.stR (.tmp 6) g6 0 rfl hg.1 (by omega), rfl⟩)) ?_
      refine LinL.step (s := (.val (vz))) [(108, some 0), (104, some 4)] rfl (by kernel_rfl) (op_yes (reads := [(108, some 0)]) 3 104 4 false rfl rfl rfl (op_runs rfl fun σ w' hx hg => ⟨_, runs_fload (ρ := σ.eval) (w := w') (.tmp 108) rfl hg.1 (agg_of (by kernel_rfl) _) (f6.ext hx) rfl, rfl⟩)) ?_
      refine LinL.step (s := (.val (.string (strN D2.l)))) [(109, some 0), (104, some 5)] rfl (by kernel_rfl) (op_yes (reads := [(109, some 0)]) 3 104 5 false rfl rfl rfl (op_runs rfl fun σ w' hx hg => ⟨_, runs_str (ρ := σ.eval) (w := w') (.tmp 109) rfl hg.1 (bz.ext hx), rfl⟩)) ?_
      refine LinL.step (s := (.val (.bool false))) [(107, some 3), (110, some 0), (104, some 6)] rfl (by kernel_rfl) (op_yes (reads := [(107, some 3), (110, some 0)]) 3 104 6 false rfl rfl rfl (op_runs rfl fun σ w' hx hg => ⟨(.bool false), by have h107 : σ.tmps.getD 107 undef = .string (strN D2.l) := hg.1; have h110 : σ.tmps.getD 110 undef = .string (strN D2.l) := hg.2.1; unfold Runs execOp; simp [Act.eval, h107, h110, go_sem], rfl⟩)) ?_
      refine LinL.step (s := (.val (.bool false))) [(104, some 7), (111, some 0)] rfl (by kernel_rfl) (op_runs rfl fun σ w' hx hg => ⟨_, runs_pick_f (ρ := σ.eval) (w := w') (.tmp 104) (.const (.bool true)) (.tmp 111) rfl hg.1 hg.2.1, rfl⟩) ?_
      refine LinL.step (s := (.val (.bool false))) [(112, some 0)] rfl (by kernel_rfl) (op_copy 112 0 (.val (.bool false)) rfl (.inl rfl) rfl) ?_
      refine LinL.step (s := (.val (.pointer (some A)))) [(5, none), (113, some 0)] rfl (by kernel_rfl) (op_yes (reads := [(5, none)]) 12 113 0 false rfl rfl rfl (op_out 5 (.pointer (some A)) rfl (.inl rfl) rfl)) ?_
      refine LinL.step (s := (.val (.int .i64 (D2.s : Nat)))) [(114, some 0), (113, some 1)] rfl (by kernel_rfl) (op_yes (reads := [(114, some 0)]) 12 113 1 false rfl rfl rfl (op_calls 23 #[(.tmp 114)] #[24] (fun σ => #[.pointer (some A)]) rfl rfl (fun _ _ => rfl) fun σ w' hx hg => ⟨by have h114 : σ.tmps.getD 114 undef = .pointer (some A) := hg.1; simp only [List.map_toArray, List.map_cons, List.map_nil, Act.eval, h114], (Synced_any (hd.ext hx)).mono fun e w'' h => ⟨_, h.1, h.2 ▸ Ext.refl _, rfl⟩⟩)) ?_
      refine LinL.step (s := (.val (.pointer (some ⟨g6, 1, none⟩)))) [(6, none), (113, some 2)] rfl (by kernel_rfl) (op_yes (reads := [(6, none)]) 12 113 2 false rfl rfl rfl (op_runs rfl fun σ w' hx hg => ⟨_, runs_field (ρ := σ.eval) (w := w') Try.stR (.tmp 6) g6 1 rfl hg.1 (by omega), rfl⟩)) ?_
      refine LinL.step (s := (.val (.int .i64 (D2.s : Nat)))) [(116, some 0), (113, some 3)] rfl (by kernel_rfl) (op_yes (reads := [(116, some 0)]) 12 113 3 false rfl rfl rfl (op_runs rfl fun σ w' hx hg => ⟨_, runs_fload (ρ := σ.eval) (w := w') (.tmp 116) rfl hg.1 (agg_of (by kernel_rfl) _) (f6.ext hx) rfl, rfl⟩)) ?_
      refine LinL.step (s := (.val (.bool false))) [(115, some 2), (117, some 0), (113, some 4)] rfl (by kernel_rfl) (op_yes (reads := [(115, some 2), (117, some 0)]) 12 113 4 false rfl rfl rfl (op_runs rfl fun σ w' hx hg => ⟨(.bool false), by have h115 : σ.tmps.getD 115 undef = .int .i64 (D2.s : Nat) := hg.1; have h117 : σ.tmps.getD 117 undef = .int .i64 (D2.s : Nat) := hg.2.1; unfold Runs execOp; simp [Act.eval, h115, h117, go_sem], rfl⟩)) ?_
      refine LinL.step (s := (.val (.bool false))) [(113, some 5), (118, some 0)] rfl (by kernel_rfl) (op_runs rfl fun σ w' hx hg => ⟨_, runs_pick_f (ρ := σ.eval) (w := w') (.tmp 113) (.const (.bool true)) (.tmp 118) rfl hg.1 hg.2.1, rfl⟩) ?_
      refine LinL.step (s := (.val (.bool false))) [(119, some 0)] rfl (by kernel_rfl) (op_copy 119 0 (.val (.bool false)) rfl (.inl rfl) rfl) ?_
      refine LinL.step (s := (.val (.pointer (some A)))) [(5, none), (120, some 0)] rfl (by kernel_rfl) (op_yes (reads := [(5, none)]) 19 120 0 false rfl rfl rfl (op_out 5 (.pointer (some A)) rfl (.inl rfl) rfl)) ?_
      refine LinL.step (s := (.val (.int .i64 (D2.room : Nat)))) [(121, some 0), (120, some 1)] rfl (by kernel_rfl) (op_yes (reads := [(121, some 0)]) 19 120 1 false rfl rfl rfl (op_calls 12 #[(.tmp 121)] #[24] (fun σ => #[.pointer (some A)]) rfl rfl (fun _ _ => rfl) fun σ w' hx hg => ⟨by have h121 : σ.tmps.getD 121 undef = .pointer (some A) := hg.1; simp only [List.map_toArray, List.map_cons, List.map_nil, Act.eval, h121], (Room_any (hd.ext hx)).mono fun e w'' h => ⟨_, h.1, h.2, rfl⟩⟩)) ?_
      refine LinL.step (s := (.val (.agg #[vz, .int .i64 (D2.s : Nat), .int .i64 (D2.lim : Nat)]))) [(6, none), (120, some 2)] rfl (by kernel_rfl) (op_yes (reads := [(6, none)]) 19 120 2 false rfl rfl rfl (op_runs rfl fun σ w' hx hg => ⟨_, runs_aload (ρ := σ.eval) (w := w') Try.stR (.tmp 6) rfl hg.1 (f6.ext hx) rfl, rfl⟩)) ?_
      refine LinL.step (s := (.val (.int .i64 (D2.room : Nat)))) [(123, some 0), (120, some 3)] rfl (by kernel_rfl) (op_yes (reads := [(123, some 0)]) 19 120 3 false rfl rfl rfl (op_calls 24 #[(.tmp 123)] #[31] (fun σ => #[.agg #[vz, .int .i64 (D2.s : Nat), .int .i64 (D2.lim : Nat)]]) rfl rfl (fun _ _ => rfl) fun σ w' hx hg => ⟨by have h123 : σ.tmps.getD 123 undef = .agg #[vz, .int .i64 (D2.s : Nat), .int .i64 (D2.lim : Nat)] := hg.1; simp only [List.map_toArray, List.map_cons, List.map_nil, Act.eval, h123], (RRoom_any (RD.made (D := D2) (hS.ext hx) ho2.out)).mono fun e w'' h => ⟨_, h.1, h.2, rfl⟩⟩)) ?_
      refine LinL.step (s := (.val (.bool false))) [(122, some 2), (124, some 0), (120, some 4)] rfl (by kernel_rfl) (op_yes (reads := [(122, some 2), (124, some 0)]) 19 120 4 false rfl rfl rfl (op_runs rfl fun σ w' hx hg => ⟨(.bool false), by have h122 : σ.tmps.getD 122 undef = .int .i64 (D2.room : Nat) := hg.1; have h124 : σ.tmps.getD 124 undef = .int .i64 (D2.room : Nat) := hg.2.1; unfold Runs execOp; simp [Act.eval, h122, h124, go_sem], rfl⟩)) ?_
      refine LinL.step (s := (.val (.bool false))) [(120, some 5), (125, some 0)] rfl (by kernel_rfl) (op_runs rfl fun σ w' hx hg => ⟨_, runs_pick_f (ρ := σ.eval) (w := w') (.tmp 120) (.const (.bool true)) (.tmp 125) rfl hg.1 hg.2.1, rfl⟩) ?_
      intro wN hxN
      simp only [Fin', List.reverse_cons, List.reverse_nil, List.nil_append, List.cons_append, List.drop_zero, List.drop_succ_cons, List.take_succ_cons, List.take_zero]
      intro q106 hq106
      simp only [Act.put, List.setIfInBounds_toArray, List.set_cons_zero, List.set_cons_succ]
      go_wp2
      go_roundw
      case rel => exact ⟨k + 1, _, D2, vz, by go_num, by omega, hd.ext hxN, hO.extend hxN, f6.ext hxN, hS.ext hxN, n6⟩
      case measure => simp [intOf]; omega
    by_cases hk3 : l[k].k = 3
    · have hc0 : (l[k].k == 0) = false := by rw [beq_eq_false_iff_ne]; omega
      have hc1 : (l[k].k == 1) = false := by rw [beq_eq_false_iff_ne]; omega
      have hc2 : (l[k].k == 2) = false := by rw [beq_eq_false_iff_ne]; omega
      have hc3 : (l[k].k == 3) = true := by rw [beq_iff_eq]; exact hk3
      obtain ⟨D2, hD2⟩ : ∃ D2, D2 = D.setLim l[k].n := ⟨_, rfl⟩
      have ho2 := hide_ (show D2.Ok from hD2 ▸ (ho.setLim _))
      replace hD2 := hide_ hD2.symm
      clear hk0 hk1 hk2 hk3
      go_wp2_with (first
        | (refine w_ridx0 Try.elA _ _ k ActR.stays rfl rfl rfl rfl hl hO.ext hlt ?_; rintro p row hrow hrl ⟨⟨u, rfl, hu⟩, hok⟩; have cu : u.oneCell' = true := hu.one'; (try simp only [Act.put, List.setIfInBounds_toArray, List.set_cons_zero, List.set_cons_succ]))
        | (refine w_pload Try.stA _ rfl rfl rfl (hrow.ext hO.ext) rfl ?_; (try simp only [Act.put, List.setIfInBounds_toArray, List.set_cons_zero, List.set_cons_succ]))
        | (refine w_alloc Try.stA rfl rfl ?_; intro g7 w7 hg7 hx7 f7; replace hd := hd.ext hx7; replace hO := hO.extend hx7; replace f6 := f6.ext hx7; replace hS := hS.ext hx7; have n76 : g6 ≠ g7 := (by omega); (try simp only [Act.put, List.setIfInBounds_toArray, List.set_cons_zero, List.set_cons_succ]))
        | (refine w_astore Try.stA (us := [.int .i64 l[k].k, .int .i64 l[k].n, u]) _ _ rfl rfl rfl rfl rfl f7 rfl rfl (List.forall_mem_cons.2 ⟨rfl, List.forall_mem_cons.2 ⟨rfl, List.forall_mem_cons.2 ⟨cu, by simp⟩⟩⟩) ?_; intro w8 hm8 f7'; replace f7 := f7'; clear f7'; replace hd := hd.mod hm8 (fun j hj e => by have := hbd j hj; omega); replace hO := hO.other hm8 (fun j e => by omega); replace f6 := f6.mod hm8 n76; replace hS := hS.mod' hm8 (fun j hj e => by have := hvl j hj; omega); have hg8 := f7.lt; clear hm8; (try simp only [Act.put, List.setIfInBounds_toArray, List.set_cons_zero, List.set_cons_succ]))
        | ((try refine w_yes _ _ _ rfl rfl rfl ?_); refine w_field Try.stA _ _ _ rfl rfl rfl (by omega) ?_; (try simp only [Act.put, List.setIfInBounds_toArray, List.set_cons_zero, List.set_cons_succ]))
        | ((try refine w_yes _ _ _ rfl rfl rfl ?_); refine w_fload _ rfl rfl rfl f7 rfl (agg_of (by kernel_rfl)) ?_; (try simp only [Act.put, List.setIfInBounds_toArray, List.set_cons_zero, List.set_cons_succ]))
        | (go_at_call 19; have n7 : ¬ F g7 := (fun h => by have := hbd g7 h; omega); have hO7 : wr.heap.size ≤ w8.heap.size := (by omega); refine (Limit_any _ hd).mono ?_; rintro e wz ⟨rfl, hm, hd'⟩; replace hO7 := Nat.le_trans hO7 hm.size; replace hO := hO.upd hm.upd; replace hd := hd'; replace f6 := f6.mod hm n6; replace f7 := f7.mod hm n7; replace hS := hS.mod' hm (fun j hj e => hS.off j hj (.inl e)); clear hd' hm; (try simp only [Act.put, List.setIfInBounds_toArray, List.set_cons_zero, List.set_cons_succ]))
        | (refine w_aload Try.stR _ rfl rfl rfl f6 rfl ?_; (try simp only [Act.put, List.setIfInBounds_toArray, List.set_cons_zero, List.set_cons_succ]))
        | (go_at_call 13; refine (RLimit_any _ (RD.made (D := D) hS ho)).mono ?_; rintro e wr2 ⟨val, rfl, hxr, hR⟩; rw [hD2.out] at hR; obtain ⟨⟨vz, rfl, hZ⟩, _⟩ := hR; replace hO := hO.extend hxr; replace hd := hd.ext hxr; replace f6 := f6.ext hxr; replace f7 := f7.ext hxr; have cz : vz.oneCell' = true := hZ.sl.one'; (try simp only [Act.put, List.setIfInBounds_toArray, List.set_cons_zero, List.set_cons_succ]))
        | (refine w_astore Try.stR (us := [vz, .int .i64 D2.s, .int .i64 D2.lim]) _ _ rfl rfl rfl rfl rfl f6 rfl rfl (List.forall_mem_cons.2 ⟨cz, List.forall_mem_cons.2 ⟨rfl, List.forall_mem_cons.2 ⟨rfl, by simp⟩⟩⟩) ?_; intro wS hmS f6'; replace f6 := f6'; clear f6'; replace hd := hd.mod hmS (fun j hj e => n6 (e ▸ hj)); replace hO := hO.other hmS (fun j e => e ▸ hn6); replace hS := hZ.mod' hmS (fun j hj e => hZ.off j hj (.inr e)); clear hmS hZ; (try simp only [Act.put, List.setIfInBounds_toArray, List.set_cons_zero, List.set_cons_succ]))
        | fail)
      rw [hD2.out] at hd
      refine wp_region_phx (by kernel_rfl) ?_; intro wd hxd; replace hd := hd.ext hxd; replace hO := hO.extend hxd; replace f6 := f6.ext hxd; replace hS := hS.ext hxd; have bz : Byt wd vz D2.l := hS.sl
      refine Ph.rest 0 26 (by kernel_rfl) ?_
      refine LinL.step (s := (.val (.int .i64 0))) [(9, none)] rfl (by kernel_rfl) (op_out 9 (.int .i64 0) rfl (.inl rfl) rfl) ?_
      refine LinL.step (s := (.val (.int .i64 0))) [(10, none)] rfl (by kernel_rfl) (op_out 10 (.int .i64 0) rfl (.inl rfl) rfl) ?_
      refine LinL.step (s := (.val (.bool false))) [(101, some 1), (102, some 0)] rfl (by kernel_rfl) (op_runs rfl fun σ w' hx hg => ⟨(.bool false), by have h101 : σ.tmps.getD 101 undef = .int .i64 0 := hg.1; have h102 : σ.tmps.getD 102 undef = .int .i64 0 := hg.2.1; unfold Runs execOp; simp [Act.eval, h101, h102, go_sem], rfl⟩) ?_
      refine LinL.step (s := (.val (.bool false))) [(103, some 0)] rfl (by kernel_rfl) (op_copy 103 0 (.val (.bool false)) rfl (.inl rfl) rfl) ?_
      refine LinL.step (s := (.val (.pointer (some A)))) [(5, none), (104, some 0)] rfl (by kernel_rfl) (op_yes (reads := [(5, none)]) 3 104 0 false rfl rfl rfl (op_out 5 (.pointer (some A)) rfl (.inl rfl) rfl)) ?_
      refine LinL.step (s := (.sl (u8s (D2.l)))) [(105, some 0), (104, some 1)] rfl (by kernel_rfl) (op_yes (reads := [(105, some 0)]) 3 104 1 false rfl rfl rfl (op_calls 22 #[(.tmp 105)] #[24] (fun σ => #[.pointer (some A)]) rfl rfl (fun _ _ => rfl) fun σ w' hx hg => ⟨by have h105 : σ.tmps.getD 105 undef = .pointer (some A) := hg.1; simp only [List.map_toArray, List.map_cons, List.map_nil, Act.eval, h105], (Bytes_any (hd.ext hx)).mono fun e w'' ⟨v, he, hx', hr⟩ => ⟨v, he, hx', hr.sl⟩⟩)) ?_
      refine LinL.step (s := (.val (.string (strN D2.l)))) [(106, some 0), (104, some 2)] rfl (by kernel_rfl) (op_yes (reads := [(106, some 0)]) 3 104 2 false rfl rfl rfl (op_runs rfl fun σ w' hx hg => ⟨_, runs_str (ρ := σ.eval) (w := w') (.tmp 106) rfl rfl hg.1, rfl⟩)) ?_
      refine LinL.step (s := (.val (.pointer (some ⟨g6, 0, none⟩)))) [(6, none), (104, some 3)] rfl (by kernel_rfl) (op_yes (reads := [(6, none)]) 3 104 3 false rfl rfl rfl (op_runs rfl fun σ w' hx hg => ⟨_, runs_field (ρ := σ.eval) (w := w') Try.stR (.tmp 6) g6 0 rfl hg.1 (by omega), rfl⟩)) ?_
      refine LinL.step (s := (.val (vz))) [(108, some 0), (104, some 4)] rfl (by kernel_rfl) (op_yes (reads := [(108, some 0)]) 3 104 4 false rfl rfl rfl (op_runs rfl fun σ w' hx hg => ⟨_, runs_fload (ρ := σ.eval) (w := w') (.tmp 108) rfl hg.1 (agg_of (by kernel_rfl) _) (f6.ext hx) rfl, rfl⟩)) ?_
      refine LinL.step (s := (.val (.string (strN D2.l)))) [(109, some 0), (104, some 5)] rfl (by kernel_rfl) (op_yes (reads := [(109, some 0)]) 3 104 5 false rfl rfl rfl (op_runs rfl fun σ w' hx hg => ⟨_, runs_str (ρ := σ.eval) (w := w') (.tmp 109) rfl hg.1 (bz.ext hx), rfl⟩)) ?_
      refine LinL.step (s := (.val (.bool false))) [(107, some 3), (110, some 0), (104, some 6)] rfl (by kernel_rfl) (op_yes (reads := [(107, some 3), (110, some 0)]) 3 104 6 false rfl rfl rfl (op_runs rfl fun σ w' hx hg => ⟨(.bool false), by have h107 : σ.tmps.getD 107 undef = .string (strN D2.l) := hg.1; have h110 : σ.tmps.getD 110 undef = .string (strN D2.l) := hg.2.1; unfold Runs execOp; simp [Act.eval, h107, h110, go_sem], rfl⟩)) ?_
      refine LinL.step (s := (.val (.bool false))) [(104, some 7), (111, some 0)] rfl (by kernel_rfl) (op_runs rfl fun σ w' hx hg => ⟨_, runs_pick_f (ρ := σ.eval) (w := w') (.tmp 104) (.const (.bool true)) (.tmp 111) rfl hg.1 hg.2.1, rfl⟩) ?_
      refine LinL.step (s := (.val (.bool false))) [(112, some 0)] rfl (by kernel_rfl) (op_copy 112 0 (.val (.bool false)) rfl (.inl rfl) rfl) ?_
      refine LinL.step (s := (.val (.pointer (some A)))) [(5, none), (113, some 0)] rfl (by kernel_rfl) (op_yes (reads := [(5, none)]) 12 113 0 false rfl rfl rfl (op_out 5 (.pointer (some A)) rfl (.inl rfl) rfl)) ?_
      refine LinL.step (s := (.val (.int .i64 (D2.s : Nat)))) [(114, some 0), (113, some 1)] rfl (by kernel_rfl) (op_yes (reads := [(114, some 0)]) 12 113 1 false rfl rfl rfl (op_calls 23 #[(.tmp 114)] #[24] (fun σ => #[.pointer (some A)]) rfl rfl (fun _ _ => rfl) fun σ w' hx hg => ⟨by have h114 : σ.tmps.getD 114 undef = .pointer (some A) := hg.1; simp only [List.map_toArray, List.map_cons, List.map_nil, Act.eval, h114], (Synced_any (hd.ext hx)).mono fun e w'' h => ⟨_, h.1, h.2 ▸ Ext.refl _, rfl⟩⟩)) ?_
      refine LinL.step (s := (.val (.pointer (some ⟨g6, 1, none⟩)))) [(6, none), (113, some 2)] rfl (by kernel_rfl) (op_yes (reads := [(6, none)]) 12 113 2 false rfl rfl rfl (op_runs rfl fun σ w' hx hg => ⟨_, runs_field (ρ := σ.eval) (w := w') Try.stR (.tmp 6) g6 1 rfl hg.1 (by omega), rfl⟩)) ?_
      refine LinL.step (s := (.val (.int .i64 (D2.s : Nat)))) [(116, some 0), (113, some 3)] rfl (by kernel_rfl) (op_yes (reads := [(116, some 0)]) 12 113 3 false rfl rfl rfl (op_runs rfl fun σ w' hx hg => ⟨_, runs_fload (ρ := σ.eval) (w := w') (.tmp 116) rfl hg.1 (agg_of (by kernel_rfl) _) (f6.ext hx) rfl, rfl⟩)) ?_
      refine LinL.step (s := (.val (.bool false))) [(115, some 2), (117, some 0), (113, some 4)] rfl (by kernel_rfl) (op_yes (reads := [(115, some 2), (117, some 0)]) 12 113 4 false rfl rfl rfl (op_runs rfl fun σ w' hx hg => ⟨(.bool false), by have h115 : σ.tmps.getD 115 undef = .int .i64 (D2.s : Nat) := hg.1; have h117 : σ.tmps.getD 117 undef = .int .i64 (D2.s : Nat) := hg.2.1; unfold Runs execOp; simp [Act.eval, h115, h117, go_sem], rfl⟩)) ?_
      refine LinL.step (s := (.val (.bool false))) [(113, some 5), (118, some 0)] rfl (by kernel_rfl) (op_runs rfl fun σ w' hx hg => ⟨_, runs_pick_f (ρ := σ.eval) (w := w') (.tmp 113) (.const (.bool true)) (.tmp 118) rfl hg.1 hg.2.1, rfl⟩) ?_
      refine LinL.step (s := (.val (.bool false))) [(119, some 0)] rfl (by kernel_rfl) (op_copy 119 0 (.val (.bool false)) rfl (.inl rfl) rfl) ?_
      refine LinL.step (s := (.val (.pointer (some A)))) [(5, none), (120, some 0)] rfl (by kernel_rfl) (op_yes (reads := [(5, none)]) 19 120 0 false rfl rfl rfl (op_out 5 (.pointer (some A)) rfl (.inl rfl) rfl)) ?_
      refine LinL.step (s := (.val (.int .i64 (D2.room : Nat)))) [(121, some 0), (120, some 1)] rfl (by kernel_rfl) (op_yes (reads := [(121, some 0)]) 19 120 1 false rfl rfl rfl (op_calls 12 #[(.tmp 121)] #[24] (fun σ => #[.pointer (some A)]) rfl rfl (fun _ _ => rfl) fun σ w' hx hg => ⟨by have h121 : σ.tmps.getD 121 undef = .pointer (some A) := hg.1; simp only [List.map_toArray, List.map_cons, List.map_nil, Act.eval, h121], (Room_any (hd.ext hx)).mono fun e w'' h => ⟨_, h.1, h.2, rfl⟩⟩)) ?_
      refine LinL.step (s := (.val (.agg #[vz, .int .i64 (D2.s : Nat), .int .i64 (D2.lim : Nat)]))) [(6, none), (120, some 2)] rfl (by kernel_rfl) (op_yes (reads := [(6, none)]) 19 120 2 false rfl rfl rfl (op_runs rfl fun σ w' hx hg => ⟨_, runs_aload (ρ := σ.eval) (w := w') Try.stR (.tmp 6) rfl hg.1 (f6.ext hx) rfl, rfl⟩)) ?_
      refine LinL.step (s := (.val (.int .i64 (D2.room : Nat)))) [(123, some 0), (120, some 3)] rfl (by kernel_rfl) (op_yes (reads := [(123, some 0)]) 19 120 3 false rfl rfl rfl (op_calls 24 #[(.tmp 123)] #[31] (fun σ => #[.agg #[vz, .int .i64 (D2.s : Nat), .int .i64 (D2.lim : Nat)]]) rfl rfl (fun _ _ => rfl) fun σ w' hx hg => ⟨by have h123 : σ.tmps.getD 123 undef = .agg #[vz, .int .i64 (D2.s : Nat), .int .i64 (D2.lim : Nat)] := hg.1; simp only [List.map_toArray, List.map_cons, List.map_nil, Act.eval, h123], (RRoom_any (RD.made (D := D2) (hS.ext hx) ho2.out)).mono fun e w'' h => ⟨_, h.1, h.2, rfl⟩⟩)) ?_
      refine LinL.step (s := (.val (.bool false))) [(122, some 2), (124, some 0), (120, some 4)] rfl (by kernel_rfl) (op_yes (reads := [(122, some 2), (124, some 0)]) 19 120 4 false rfl rfl rfl (op_runs rfl fun σ w' hx hg => ⟨(.bool false), by have h122 : σ.tmps.getD 122 undef = .int .i64 (D2.room : Nat) := hg.1; have h124 : σ.tmps.getD 124 undef = .int .i64 (D2.room : Nat) := hg.2.1; unfold Runs execOp; simp [Act.eval, h122, h124, go_sem], rfl⟩)) ?_
      refine LinL.step (s := (.val (.bool false))) [(120, some 5), (125, some 0)] rfl (by kernel_rfl) (op_runs rfl fun σ w' hx hg => ⟨_, runs_pick_f (ρ := σ.eval) (w := w') (.tmp 120) (.const (.bool true)) (.tmp 125) rfl hg.1 hg.2.1, rfl⟩) ?_
      intro wN hxN
      simp only [Fin', List.reverse_cons, List.reverse_nil, List.nil_append, List.cons_append, List.drop_zero, List.drop_succ_cons, List.take_succ_cons, List.take_zero]
      intro q106 hq106
      simp only [Act.put, List.setIfInBounds_toArray, List.set_cons_zero, List.set_cons_succ]
      go_wp2
      go_roundw
      case rel => exact ⟨k + 1, _, D2, vz, by go_num, by omega, hd.ext hxN, hO.extend hxN, f6.ext hxN, hS.ext hxN, n6⟩
      case measure => simp [intOf]; omega
    by_cases hk4 : l[k].k = 4
    · have hc0 : (l[k].k == 0) = false := by rw [beq_eq_false_iff_ne]; omega
      have hc1 : (l[k].k == 1) = false := by rw [beq_eq_false_iff_ne]; omega
      have hc2 : (l[k].k == 2) = false := by rw [beq_eq_false_iff_ne]; omega
      have hc3 : (l[k].k == 3) = false := by rw [beq_eq_false_iff_ne]; omega
      have hc4 : (l[k].k == 4) = true := by rw [beq_iff_eq]; exact hk4
      obtain ⟨D2, hD2⟩ : ∃ D2, D2 = D.cut l[k].n := ⟨_, rfl⟩
      have ho2 := hide_ (show D2.Ok from hD2 ▸ (ho.cut _))
      replace hD2 := hide_ hD2.symm
      clear hk0 hk1 hk2 hk3 hk4
      go_wp2_with (first
        | (refine w_ridx0 Try.elA _ _ k ActR.stays rfl rfl rfl rfl hl hO.ext hlt ?_; rintro p row hrow hrl ⟨⟨u, rfl, hu⟩, hok⟩; have cu : u.oneCell' = true := hu.one'; (try simp only [Act.put, List.setIfInBounds_toArray, List.set_cons_zero, List.set_cons_succ]))
        | (refine w_pload Try.stA _ rfl rfl rfl (hrow.ext hO.ext) rfl ?_; (try simp only [Act.put, List.setIfInBounds_toArray, List.set_cons_zero, List.set_cons_succ]))
        | (refine w_alloc Try.stA rfl rfl ?_; intro g7 w7 hg7 hx7 f7; replace hd := hd.ext hx7; replace hO := hO.extend hx7; replace f6 := f6.ext hx7; replace hS := hS.ext hx7; have n76 : g6 ≠ g7 := (by omega); (try simp only [Act.put, List.setIfInBounds_toArray, List.set_cons_zero, List.set_cons_succ]))
        | (refine w_astore Try.stA (us := [.int .i64 l[k].k, .int .i64 l[k].n, u]) _ _ rfl rfl rfl rfl rfl f7 rfl rfl (List.forall_mem_cons.2 ⟨rfl, List.forall_mem_cons.2 ⟨rfl, List.forall_mem_cons.2 ⟨cu, by simp⟩⟩⟩) ?_; intro w8 hm8 f7'; replace f7 := f7'; clear f7'; replace hd := hd.mod hm8 (fun j hj e => by have := hbd j hj; omega); replace hO := hO.other hm8 (fun j e => by omega); replace f6 := f6.mod hm8 n76; replace hS := hS.mod' hm8 (fun j hj e => by have := hvl j hj; omega); have hg8 := f7.lt; clear hm8; (try simp only [Act.put, List.setIfInBounds_toArray, List.set_cons_zero, List.set_cons_succ]))
        | ((try refine w_yes _ _ _ rfl rfl rfl ?_); refine w_field Try.stA _ _ _ rfl rfl rfl (by omega) ?_; (try simp only [Act.put, List.setIfInBounds_toArray, List.set_cons_zero, List.set_cons_succ]))
        | ((try refine w_yes _ _ _ rfl rfl rfl ?_); refine w_fload _ rfl rfl rfl f7 rfl (agg_of (by kernel_rfl)) ?_; (try simp only [Act.put, List.setIfInBounds_toArray, List.set_cons_zero, List.set_cons_succ]))
        | (go_at_call 20; have n7 : ¬ F g7 := (fun h => by have := hbd g7 h; omega); have hO7 : wr.heap.size ≤ w8.heap.size := (by omega); refine (Cut_any _ hd).mono ?_; rintro e wz ⟨rfl, hm, hd'⟩; replace hO7 := Nat.le_trans hO7 hm.size; replace hO := hO.upd hm.upd; replace hd := hd'; replace f6 := f6.mod hm n6; replace f7 := f7.mod hm n7; replace hS := hS.mod' hm (fun j hj e => hS.off j hj (.inl e)); clear hd' hm; (try simp only [Act.put, List.setIfInBounds_toArray, List.set_cons_zero, List.set_cons_succ]))
        | (refine w_aload Try.stR _ rfl rfl rfl f6 rfl ?_; (try simp only [Act.put, List.setIfInBounds_toArray, List.set_cons_zero, List.set_cons_succ]))
        | (go_at_call 21; refine (RCut_any _ (fun j (hj : F j ∨ j = g6) => hj.elim (fun h => Nat.lt_of_lt_of_le (hbd j h) hO7) (fun h => by have := f6.lt; omega)) (RD.made (D := D) hS ho)).mono ?_; rintro e wr2 ⟨val, rfl, hxr, hR⟩; rw [hD2.out] at hR; obtain ⟨⟨vz, rfl, hZ⟩, _⟩ := hR; replace hO := hO.extend hxr; replace hd := hd.ext hxr; replace f6 := f6.ext hxr; replace f7 := f7.ext hxr; have cz : vz.oneCell' = true := hZ.sl.one'; (try simp only [Act.put, List.setIfInBounds_toArray, List.set_cons_zero, List.set_cons_succ]))
        | (refine w_astore Try.stR (us := [vz, .int .i64 D2.s, .int .i64 D2.lim]) _ _ rfl rfl rfl rfl rfl f6 rfl rfl (List.forall_mem_cons.2 ⟨cz, List.forall_mem_cons.2 ⟨rfl, List.forall_mem_cons.2 ⟨rfl, by simp⟩⟩⟩) ?_; intro wS hmS f6'; replace f6 := f6'; clear f6'; replace hd := hd.mod hmS (fun j hj e => n6 (e ▸ hj)); replace hO := hO.other hmS (fun j e => e ▸ hn6); replace hS := hZ.mod' hmS (fun j hj e => hZ.off j hj (.inr e)); clear hmS hZ; (try simp only [Act.put, List.setIfInBounds_toArray, List.set_cons_zero, List.set_cons_succ]))
        | fail)
      rw [hD2.out] at hd
      refine wp_region_phx (by kernel_rfl) ?_; intro wd hxd; replace hd := hd.ext hxd; replace hO := hO.extend hxd; replace f6 := f6.ext hxd; replace hS := hS.ext hxd; have bz : Byt wd vz D2.l := hS.sl
      refine Ph.rest 0 26 (by kernel_rfl) ?_
      refine LinL.step (s := (.val (.int .i64 0))) [(9, none)] rfl (by kernel_rfl) (op_out 9 (.int .i64 0) rfl (.inl rfl) rfl) ?_
      refine LinL.step (s := (.val (.int .i64 0))) [(10, none)] rfl (by kernel_rfl) (op_out 10 (.int .i64 0) rfl (.inl rfl) rfl) ?_
      refine LinL.step (s := (.val (.bool false))) [(101, some 1), (102, some 0)] rfl (by kernel_rfl) (op_runs rfl fun σ w' hx hg => ⟨(.bool false), by have h101 : σ.tmps.getD 101 undef = .int .i64 0 := hg.1; have h102 : σ.tmps.getD 102 undef = .int .i64 0 := hg.2.1; unfold Runs execOp; simp [Act.eval, h101, h102, go_sem], rfl⟩) ?_
      refine LinL.step (s := (.val (.bool false))) [(103, some 0)] rfl (by kernel_rfl) (op_copy 103 0 (.val (.bool false)) rfl (.inl rfl) rfl) ?_
      refine LinL.step (s := (.val (.pointer (some A)))) [(5, none), (104, some 0)] rfl (by kernel_rfl) (op_yes (reads := [(5, none)]) 3 104 0 false rfl rfl rfl (op_out 5 (.pointer (some A)) rfl (.inl rfl) rfl)) ?_
      refine LinL.step (s := (.sl (u8s (D2.l)))) [(105, some 0), (104, some 1)] rfl (by kernel_rfl) (op_yes (reads := [(105, some 0)]) 3 104 1 false rfl rfl rfl (op_calls 22 #[(.tmp 105)] #[24] (fun σ => #[.pointer (some A)]) rfl rfl (fun _ _ => rfl) fun σ w' hx hg => ⟨by have h105 : σ.tmps.getD 105 undef = .pointer (some A) := hg.1; simp only [List.map_toArray, List.map_cons, List.map_nil, Act.eval, h105], (Bytes_any (hd.ext hx)).mono fun e w'' ⟨v, he, hx', hr⟩ => ⟨v, he, hx', hr.sl⟩⟩)) ?_
      refine LinL.step (s := (.val (.string (strN D2.l)))) [(106, some 0), (104, some 2)] rfl (by kernel_rfl) (op_yes (reads := [(106, some 0)]) 3 104 2 false rfl rfl rfl (op_runs rfl fun σ w' hx hg => ⟨_, runs_str (ρ := σ.eval) (w := w') (.tmp 106) rfl rfl hg.1, rfl⟩)) ?_
      refine LinL.step (s := (.val (.pointer (some ⟨g6, 0, none⟩)))) [(6, none), (104, some 3)] rfl (by kernel_rfl) (op_yes (reads := [(6, none)]) 3 104 3 false rfl rfl rfl (op_runs rfl fun σ w' hx hg => ⟨_, runs_field (ρ := σ.eval) (w := w') Try.stR (.tmp 6) g6 0 rfl hg.1 (by omega), rfl⟩)) ?_
      refine LinL.step (s := (.val (vz))) [(108, some 0), (104, some 4)] rfl (by kernel_rfl) (op_yes (reads := [(108, some 0)]) 3 104 4 false rfl rfl rfl (op_runs rfl fun σ w' hx hg => ⟨_, runs_fload (ρ := σ.eval) (w := w') (.tmp 108) rfl hg.1 (agg_of (by kernel_rfl) _) (f6.ext hx) rfl, rfl⟩)) ?_
      refine LinL.step (s := (.val (.string (strN D2.l)))) [(109, some 0), (104, some 5)] rfl (by kernel_rfl) (op_yes (reads := [(109, some 0)]) 3 104 5 false rfl rfl rfl (op_runs rfl fun σ w' hx hg => ⟨_, runs_str (ρ := σ.eval) (w := w') (.tmp 109) rfl hg.1 (bz.ext hx), rfl⟩)) ?_
      refine LinL.step (s := (.val (.bool false))) [(107, some 3), (110, some 0), (104, some 6)] rfl (by kernel_rfl) (op_yes (reads := [(107, some 3), (110, some 0)]) 3 104 6 false rfl rfl rfl (op_runs rfl fun σ w' hx hg => ⟨(.bool false), by have h107 : σ.tmps.getD 107 undef = .string (strN D2.l) := hg.1; have h110 : σ.tmps.getD 110 undef = .string (strN D2.l) := hg.2.1; unfold Runs execOp; simp [Act.eval, h107, h110, go_sem], rfl⟩)) ?_
      refine LinL.step (s := (.val (.bool false))) [(104, some 7), (111, some 0)] rfl (by kernel_rfl) (op_runs rfl fun σ w' hx hg => ⟨_, runs_pick_f (ρ := σ.eval) (w := w') (.tmp 104) (.const (.bool true)) (.tmp 111) rfl hg.1 hg.2.1, rfl⟩) ?_
      refine LinL.step (s := (.val (.bool false))) [(112, some 0)] rfl (by kernel_rfl) (op_copy 112 0 (.val (.bool false)) rfl (.inl rfl) rfl) ?_
      refine LinL.step (s := (.val (.pointer (some A)))) [(5, none), (113, some 0)] rfl (by kernel_rfl) (op_yes (reads := [(5, none)]) 12 113 0 false rfl rfl rfl (op_out 5 (.pointer (some A)) rfl (.inl rfl) rfl)) ?_
      refine LinL.step (s := (.val (.int .i64 (D2.s : Nat)))) [(114, some 0), (113, some 1)] rfl (by kernel_rfl) (op_yes (reads := [(114, some 0)]) 12 113 1 false rfl rfl rfl (op_calls 23 #[(.tmp 114)] #[24] (fun σ => #[.pointer (some A)]) rfl rfl (fun _ _ => rfl) fun σ w' hx hg => ⟨by have h114 : σ.tmps.getD 114 undef = .pointer (some A) := hg.1; simp only [List.map_toArray, List.map_cons, List.map_nil, Act.eval, h114], (Synced_any (hd.ext hx)).mono fun e w'' h => ⟨_, h.1, h.2 ▸ Ext.refl _, rfl⟩⟩)) ?_
      refine LinL.step (s := (.val (.pointer (some ⟨g6, 1, none⟩)))) [(6, none), (113, some 2)] rfl (by kernel_rfl) (op_yes (reads := [(6, none)]) 12 113 2 false rfl rfl rfl (op_runs rfl fun σ w' hx hg => ⟨_, runs_field (ρ := σ.eval) (w := w') Try.stR (.tmp 6) g6 1 rfl hg.1 (by omega), rfl⟩)) ?_
      refine LinL.step (s := (.val (.int .i64 (D2.s : Nat)))) [(116, some 0), (113, some 3)] rfl (by kernel_rfl) (op_yes (reads := [(116, some 0)]) 12 113 3 false rfl rfl rfl (op_runs rfl fun σ w' hx hg => ⟨_, runs_fload (ρ := σ.eval) (w := w') (.tmp 116) rfl hg.1 (agg_of (by kernel_rfl) _) (f6.ext hx) rfl, rfl⟩)) ?_
      refine LinL.step (s := (.val (.bool false))) [(115, some 2), (117, some 0), (113, some 4)] rfl (by kernel_rfl) (op_yes (reads := [(115, some 2), (117, some 0)]) 12 113 4 false rfl rfl rfl (op_runs rfl fun σ w' hx hg => ⟨(.bool false), by have h115 : σ.tmps.getD 115 undef = .int .i64 (D2.s : Nat) := hg.1; have h117 : σ.tmps.getD 117 undef = .int .i64 (D2.s : Nat) := hg.2.1; unfold Runs execOp; simp [Act.eval, h115, h117, go_sem], rfl⟩)) ?_
      refine LinL.step (s := (.val (.bool false))) [(113, some 5), (118, some 0)] rfl (by kernel_rfl) (op_runs rfl fun σ w' hx hg => ⟨_, runs_pick_f (ρ := σ.eval) (w := w') (.tmp 113) (.const (.bool true)) (.tmp 118) rfl hg.1 hg.2.1, rfl⟩) ?_
      refine LinL.step (s := (.val (.bool false))) [(119, some 0)] rfl (by kernel_rfl) (op_copy 119 0 (.val (.bool false)) rfl (.inl rfl) rfl) ?_
      refine LinL.step (s := (.val (.pointer (some A)))) [(5, none), (120, some 0)] rfl (by kernel_rfl) (op_yes (reads := [(5, none)]) 19 120 0 false rfl rfl rfl (op_out 5 (.pointer (some A)) rfl (.inl rfl) rfl)) ?_
      refine LinL.step (s := (.val (.int .i64 (D2.room : Nat)))) [(121, some 0), (120, some 1)] rfl (by kernel_rfl) (op_yes (reads := [(121, some 0)]) 19 120 1 false rfl rfl rfl (op_calls 12 #[(.tmp 121)] #[24] (fun σ => #[.pointer (some A)]) rfl rfl (fun _ _ => rfl) fun σ w' hx hg => ⟨by have h121 : σ.tmps.getD 121 undef = .pointer (some A) := hg.1; simp only [List.map_toArray, List.map_cons, List.map_nil, Act.eval, h121], (Room_any (hd.ext hx)).mono fun e w'' h => ⟨_, h.1, h.2, rfl⟩⟩)) ?_
      refine LinL.step (s := (.val (.agg #[vz, .int .i64 (D2.s : Nat), .int .i64 (D2.lim : Nat)]))) [(6, none), (120, some 2)] rfl (by kernel_rfl) (op_yes (reads := [(6, none)]) 19 120 2 false rfl rfl rfl (op_runs rfl fun σ w' hx hg => ⟨_, runs_aload (ρ := σ.eval) (w := w') Try.stR (.tmp 6) rfl hg.1 (f6.ext hx) rfl, rfl⟩)) ?_
      refine LinL.step (s := (.val (.int .i64 (D2.room : Nat)))) [(123, some 0), (120, some 3)] rfl (by kernel_rfl) (op_yes (reads := [(123, some 0)]) 19 120 3 false rfl rfl rfl (op_calls 24 #[(.tmp 123)] #[31] (fun σ => #[.agg #[vz, .int .i64 (D2.s : Nat), .int .i64 (D2.lim : Nat)]]) rfl rfl (fun _ _ => rfl) fun σ w' hx hg => ⟨by have h123 : σ.tmps.getD 123 undef = .agg #[vz, .int .i64 (D2.s : Nat), .int .i64 (D2.lim : Nat)] := hg.1; simp only [List.map_toArray, List.map_cons, List.map_nil, Act.eval, h123], (RRoom_any (RD.made (D := D2) (hS.ext hx) ho2.out)).mono fun e w'' h => ⟨_, h.1, h.2, rfl⟩⟩)) ?_
      refine LinL.step (s := (.val (.bool false))) [(122, some 2), (124, some 0), (120, some 4)] rfl (by kernel_rfl) (op_yes (reads := [(122, some 2), (124, some 0)]) 19 120 4 false rfl rfl rfl (op_runs rfl fun σ w' hx hg => ⟨(.bool false), by have h122 : σ.tmps.getD 122 undef = .int .i64 (D2.room : Nat) := hg.1; have h124 : σ.tmps.getD 124 undef = .int .i64 (D2.room : Nat) := hg.2.1; unfold Runs execOp; simp [Act.eval, h122, h124, go_sem], rfl⟩)) ?_
      refine LinL.step (s := (.val (.bool false))) [(120, some 5), (125, some 0)] rfl (by kernel_rfl) (op_runs rfl fun σ w' hx hg => ⟨_, runs_pick_f (ρ := σ.eval) (w := w') (.tmp 120) (.const (.bool true)) (.tmp 125) rfl hg.1 hg.2.1, rfl⟩) ?_
      intro wN hxN
      simp only [Fin', List.reverse_cons, List.reverse_nil, List.nil_append, List.cons_append, List.drop_zero, List.drop_succ_cons, List.take_succ_cons, List.take_zero]
      intro q106 hq106
      simp only [Act.put, List.setIfInBounds_toArray, List.set_cons_zero, List.set_cons_succ]
      go_wp2
      go_roundw
      case rel => exact ⟨k + 1, _, D2, vz, by go_num, by omega, hd.ext hxN, hO.extend hxN, f6.ext hxN, hS.ext hxN, n6⟩
      case measure => simp [intOf]; omega
    have hc0 : (l[k].k == 0) = false := by rw [beq_eq_false_iff_ne]; omega
    have hc1 : (l[k].k == 1) = false := by rw [beq_eq_false_iff_ne]; omega
    have hc2 : (l[k].k == 2) = false := by rw [beq_eq_false_iff_ne]; omega
    have hc3 : (l[k].k == 3) = false := by rw [beq_eq_false_iff_ne]; omega
    have hc4 : (l[k].k == 4) = false := by rw [beq_eq_false_iff_ne]; omega
    obtain ⟨D2, hD2⟩ : ∃ D2, D2 = D := ⟨_, rfl⟩
    have ho2 := hide_ (show D2.Ok from hD2 ▸ ho)
    replace hD2 := hide_ hD2.symm
    clear hk0 hk1 hk2 hk3 hk4
    go_wp2_with (first
      | (refine w_ridx0 Try.elA _ _ k ActR.stays rfl rfl rfl rfl hl hO.ext hlt ?_; rintro p row hrow hrl ⟨⟨u, rfl, hu⟩, hok⟩; have cu : u.oneCell' = true := hu.one'; (try simp only [Act.put, List.setIfInBounds_toArray, List.set_cons_zero, List.set_cons_succ]))
      | (refine w_pload Try.stA _ rfl rfl rfl (hrow.ext hO.ext) rfl ?_; (try simp only [Act.put, List.setIfInBounds_toArray, List.set_cons_zero, List.set_cons_succ]))
      | (refine w_alloc Try.stA rfl rfl ?_; intro g7 w7 hg7 hx7 f7; replace hd := hd.ext hx7; replace hO := hO.extend hx7; replace f6 := f6.ext hx7; replace hS := hS.ext hx7; have n76 : g6 ≠ g7 := (by omega); (try simp only [Act.put, List.setIfInBounds_toArray, List.set_cons_zero, List.set_cons_succ]))
      | (refine w_astore Try.stA (us := [.int .i64 l[k].k, .int .i64 l[k].n, u]) _ _ rfl rfl rfl rfl rfl f7 rfl rfl (List.forall_mem_cons.2 ⟨rfl, List.forall_mem_cons.2 ⟨rfl, List.forall_mem_cons.2 ⟨cu, by simp⟩⟩⟩) ?_; intro w8 hm8 f7'; replace f7 := f7'; clear f7'; replace hd := hd.mod hm8 (fun j hj e => by have := hbd j hj; omega); replace hO := hO.other hm8 (fun j e => by omega); replace f6 := f6.mod hm8 n76; replace hS := hS.mod' hm8 (fun j hj e => by have := hvl j hj; omega); have hg8 := f7.lt; clear hm8; (try simp only [Act.put, List.setIfInBounds_toArray, List.set_cons_zero, List.set_cons_succ]))
      | ((try refine w_yes _ _ _ rfl rfl rfl ?_); refine w_field Try.stA _ _ _ rfl rfl rfl (by omega) ?_; (try simp only [Act.put, List.setIfInBounds_toArray, List.set_cons_zero, List.set_cons_succ]))
      | ((try refine w_yes _ _ _ rfl rfl rfl ?_); refine w_fload _ rfl rfl rfl f7 rfl (agg_of (by kernel_rfl)) ?_; (try simp only [Act.put, List.setIfInBounds_toArray, List.set_cons_zero, List.set_cons_succ]))
      | fail)
    obtain ⟨vz, hvz⟩ : ∃ vz, vz = vw := ⟨_, rfl⟩
    rw [← hvz] at f6 hS
    clear hvz
    have e2 := hD2.out
    rw [e2] at hd f6 hS
    clear e2
    refine wp_region_phx (by kernel_rfl) ?_; intro wd hxd; replace hd := hd.ext hxd; replace hO := hO.extend hxd; replace f6 := f6.ext hxd; replace hS := hS.ext hxd; have bz : Byt wd vz D2.l := hS.sl
    refine Ph.rest 0 26 (by kernel_rfl) ?_
    refine LinL.step (s := (.val (.int .i64 0))) [(9, none)] rfl (by kernel_rfl) (op_out 9 (.int .i64 0) rfl (.inl rfl) rfl) ?_
    refine LinL.step (s := (.val (.int .i64 0))) [(10, none)] rfl (by kernel_rfl) (op_out 10 (.int .i64 0) rfl (.inl rfl) rfl) ?_
    refine LinL.step (s := (.val (.bool false))) [(101, some 1), (102, some 0)] rfl (by kernel_rfl) (op_runs rfl fun σ w' hx hg => ⟨(.bool false), by have h101 : σ.tmps.getD 101 undef = .int .i64 0 := hg.1; have h102 : σ.tmps.getD 102 undef = .int .i64 0 := hg.2.1; unfold Runs execOp; simp [Act.eval, h101, h102, go_sem], rfl⟩) ?_
    refine LinL.step (s := (.val (.bool false))) [(103, some 0)] rfl (by kernel_rfl) (op_copy 103 0 (.val (.bool false)) rfl (.inl rfl) rfl) ?_
    refine LinL.step (s := (.val (.pointer (some A)))) [(5, none), (104, some 0)] rfl (by kernel_rfl) (op_yes (reads := [(5, none)]) 3 104 0 false rfl rfl rfl (op_out 5 (.pointer (some A)) rfl (.inl rfl) rfl)) ?_
    refine LinL.step (s := (.sl (u8s (D2.l)))) [(105, some 0), (104, some 1)] rfl (by kernel_rfl) (op_yes (reads := [(105, some 0)]) 3 104 1 false rfl rfl rfl (op_calls 22 #[(.tmp 105)] #[24] (fun σ => #[.pointer (some A)]) rfl rfl (fun _ _ => rfl) fun σ w' hx hg => ⟨by have h105 : σ.tmps.getD 105 undef = .pointer (some A) := hg.1; simp only [List.map_toArray, List.map_cons, List.map_nil, Act.eval, h105], (Bytes_any (hd.ext hx)).mono fun e w'' ⟨v, he, hx', hr⟩ => ⟨v, he, hx', hr.sl⟩⟩)) ?_
    refine LinL.step (s := (.val (.string (strN D2.l)))) [(106, some 0), (104, some 2)] rfl (by kernel_rfl) (op_yes (reads := [(106, some 0)]) 3 104 2 false rfl rfl rfl (op_runs rfl fun σ w' hx hg => ⟨_, runs_str (ρ := σ.eval) (w := w') (.tmp 106) rfl rfl hg.1, rfl⟩)) ?_
    refine LinL.step (s := (.val (.pointer (some ⟨g6, 0, none⟩)))) [(6, none), (104, some 3)] rfl (by kernel_rfl) (op_yes (reads := [(6, none)]) 3 104 3 false rfl rfl rfl (op_runs rfl fun σ w' hx hg => ⟨_, runs_field (ρ := σ.eval) (w := w') Try.stR (.tmp 6) g6 0 rfl hg.1 (by omega), rfl⟩)) ?_
    refine LinL.step (s := (.val (vz))) [(108, some 0), (104, some 4)] rfl (by kernel_rfl) (op_yes (reads := [(108, some 0)]) 3 104 4 false rfl rfl rfl (op_runs rfl fun σ w' hx hg => ⟨_, runs_fload (ρ := σ.eval) (w := w') (.tmp 108) rfl hg.1 (agg_of (by kernel_rfl) _) (f6.ext hx) rfl, rfl⟩)) ?_
    refine LinL.step (s := (.val (.string (strN D2.l)))) [(109, some 0), (104, some 5)] rfl (by kernel_rfl) (op_yes (reads := [(109, some 0)]) 3 104 5 false rfl rfl rfl (op_runs rfl fun σ w' hx hg => ⟨_, runs_str (ρ := σ.eval) (w := w') (.tmp 109) rfl hg.1 (bz.ext hx), rfl⟩)) ?_
    refine LinL.step (s := (.val (.bool false))) [(107, some 3), (110, some 0), (104, some 6)] rfl (by kernel_rfl) (op_yes (reads := [(107, some 3), (110, some 0)]) 3 104 6 false rfl rfl rfl (op_runs rfl fun σ w' hx hg => ⟨(.bool false), by have h107 : σ.tmps.getD 107 undef = .string (strN D2.l) := hg.1; have h110 : σ.tmps.getD 110 undef = .string (strN D2.l) := hg.2.1; unfold Runs execOp; simp [Act.eval, h107, h110, go_sem], rfl⟩)) ?_
    refine LinL.step (s := (.val (.bool false))) [(104, some 7), (111, some 0)] rfl (by kernel_rfl) (op_runs rfl fun σ w' hx hg => ⟨_, runs_pick_f (ρ := σ.eval) (w := w') (.tmp 104) (.const (.bool true)) (.tmp 111) rfl hg.1 hg.2.1, rfl⟩) ?_
    refine LinL.step (s := (.val (.bool false))) [(112, some 0)] rfl (by kernel_rfl) (op_copy 112 0 (.val (.bool false)) rfl (.inl rfl) rfl) ?_
    refine LinL.step (s := (.val (.pointer (some A)))) [(5, none), (113, some 0)] rfl (by kernel_rfl) (op_yes (reads := [(5, none)]) 12 113 0 false rfl rfl rfl (op_out 5 (.pointer (some A)) rfl (.inl rfl) rfl)) ?_
    refine LinL.step (s := (.val (.int .i64 (D2.s : Nat)))) [(114, some 0), (113, some 1)] rfl (by kernel_rfl) (op_yes (reads := [(114, some 0)]) 12 113 1 false rfl rfl rfl (op_calls 23 #[(.tmp 114)] #[24] (fun σ => #[.pointer (some A)]) rfl rfl (fun _ _ => rfl) fun σ w' hx hg => ⟨by have h114 : σ.tmps.getD 114 undef = .pointer (some A) := hg.1; simp only [List.map_toArray, List.map_cons, List.map_nil, Act.eval, h114], (Synced_any (hd.ext hx)).mono fun e w'' h => ⟨_, h.1, h.2 ▸ Ext.refl _, rfl⟩⟩)) ?_
    refine LinL.step (s := (.val (.pointer (some ⟨g6, 1, none⟩)))) [(6, none), (113, some 2)] rfl (by kernel_rfl) (op_yes (reads := [(6, none)]) 12 113 2 false rfl rfl rfl (op_runs rfl fun σ w' hx hg => ⟨_, runs_field (ρ := σ.eval) (w := w') Try.stR (.tmp 6) g6 1 rfl hg.1 (by omega), rfl⟩)) ?_
    refine LinL.step (s := (.val (.int .i64 (D2.s : Nat)))) [(116, some 0), (113, some 3)] rfl (by kernel_rfl) (op_yes (reads := [(116, some 0)]) 12 113 3 false rfl rfl rfl (op_runs rfl fun σ w' hx hg => ⟨_, runs_fload (ρ := σ.eval) (w := w') (.tmp 116) rfl hg.1 (agg_of (by kernel_rfl) _) (f6.ext hx) rfl, rfl⟩)) ?_
    refine LinL.step (s := (.val (.bool false))) [(115, some 2), (117, some 0), (113, some 4)] rfl (by kernel_rfl) (op_yes (reads := [(115, some 2), (117, some 0)]) 12 113 4 false rfl rfl rfl (op_runs rfl fun σ w' hx hg => ⟨(.bool false), by have h115 : σ.tmps.getD 115 undef = .int .i64 (D2.s : Nat) := hg.1; have h117 : σ.tmps.getD 117 undef = .int .i64 (D2.s : Nat) := hg.2.1; unfold Runs execOp; simp [Act.eval, h115, h117, go_sem], rfl⟩)) ?_
    refine LinL.step (s := (.val (.bool false))) [(113, some 5), (118, some 0)] rfl (by kernel_rfl) (op_runs rfl fun σ w' hx hg => ⟨_, runs_pick_f (ρ := σ.eval) (w := w') (.tmp 113) (.const (.bool true)) (.tmp 118) rfl hg.1 hg.2.1, rfl⟩) ?_
    refine LinL.step (s := (.val (.bool false))) [(119, some 0)] rfl (by kernel_rfl) (op_copy 119 0 (.val (.bool false)) rfl (.inl rfl) rfl) ?_
    refine LinL.step (s := (.val (.pointer (some A)))) [(5, none), (120, some 0)] rfl (by kernel_rfl) (op_yes (reads := [(5, none)]) 19 120 0 false rfl rfl rfl (op_out 5 (.pointer (some A)) rfl (.inl rfl) rfl)) ?_
    refine LinL.step (s := (.val (.int .i64 (D2.room : Nat)))) [(121, some 0), (120, some 1)] rfl (by kernel_rfl) (op_yes (reads := [(121, some 0)]) 19 120 1 false rfl rfl rfl (op_calls 12 #[(.tmp 121)] #[24] (fun σ => #[.pointer (some A)]) rfl rfl (fun _ _ => rfl) fun σ w' hx hg => ⟨by have h121 : σ.tmps.getD 121 undef = .pointer (some A) := hg.1; simp only [List.map_toArray, List.map_cons, List.map_nil, Act.eval, h121], (Room_any (hd.ext hx)).mono fun e w'' h => ⟨_, h.1, h.2, rfl⟩⟩)) ?_
    refine LinL.step (s := (.val (.agg #[vz, .int .i64 (D2.s : Nat), .int .i64 (D2.lim : Nat)]))) [(6, none), (120, some 2)] rfl (by kernel_rfl) (op_yes (reads := [(6, none)]) 19 120 2 false rfl rfl rfl (op_runs rfl fun σ w' hx hg => ⟨_, runs_aload (ρ := σ.eval) (w := w') Try.stR (.tmp 6) rfl hg.1 (f6.ext hx) rfl, rfl⟩)) ?_
    refine LinL.step (s := (.val (.int .i64 (D2.room : Nat)))) [(123, some 0), (120, some 3)] rfl (by kernel_rfl) (op_yes (reads := [(123, some 0)]) 19 120 3 false rfl rfl rfl (op_calls 24 #[(.tmp 123)] #[31] (fun σ => #[.agg #[vz, .int .i64 (D2.s : Nat), .int .i64 (D2.lim : Nat)]]) rfl rfl (fun _ _ => rfl) fun σ w' hx hg => ⟨by have h123 : σ.tmps.getD 123 undef = .agg #[vz, .int .i64 (D2.s : Nat), .int .i64 (D2.lim : Nat)] := hg.1; simp only [List.map_toArray, List.map_cons, List.map_nil, Act.eval, h123], (RRoom_any (RD.made (D := D2) (hS.ext hx) ho2.out)).mono fun e w'' h => ⟨_, h.1, h.2, rfl⟩⟩)) ?_
    refine LinL.step (s := (.val (.bool false))) [(122, some 2), (124, some 0), (120, some 4)] rfl (by kernel_rfl) (op_yes (reads := [(122, some 2), (124, some 0)]) 19 120 4 false rfl rfl rfl (op_runs rfl fun σ w' hx hg => ⟨(.bool false), by have h122 : σ.tmps.getD 122 undef = .int .i64 (D2.room : Nat) := hg.1; have h124 : σ.tmps.getD 124 undef = .int .i64 (D2.room : Nat) := hg.2.1; unfold Runs execOp; simp [Act.eval, h122, h124, go_sem], rfl⟩)) ?_
    refine LinL.step (s := (.val (.bool false))) [(120, some 5), (125, some 0)] rfl (by kernel_rfl) (op_runs rfl fun σ w' hx hg => ⟨_, runs_pick_f (ρ := σ.eval) (w := w') (.tmp 120) (.const (.bool true)) (.tmp 125) rfl hg.1 hg.2.1, rfl⟩) ?_
    intro wN hxN
    simp only [Fin', List.reverse_cons, List.reverse_nil, List.nil_append, List.cons_append, List.drop_zero, List.drop_succ_cons, List.take_succ_cons, List.take_zero]
    intro q106 hq106
    simp only [Act.put, List.setIfInBounds_toArray, List.set_cons_zero, List.set_cons_succ]
    go_wp2
    go_roundw
    case rel => exact ⟨k + 1, _, D2, vz, by go_num, by omega, hd.ext hxN, hO.extend hxN, f6.ext hxN, hS.ext hxN, n6⟩
    case measure => simp [intOf]; omega

set_option maxRecDepth 100000 in
theorem diskRuns_lifted (os : Os) (started : os.Started) (H : Type) (enc : TypeId × Value → H) :
    ReturnsInHanded {} Try.checked os 4 .any (Rows.diskRunsSpec.pre6 enc Try.prog Try.f4 Rows.diskRunsRow.domain false) (Rows.diskRunsSpec.post enc Try.prog Try.f4 false true false false) := by
  refine law_lifted (s := Rows.diskRunsSpec) (conds := Rows.diskRunsRow.domain) Try.func4 (by kernel_rfl) rfl (fun H ds h => by
      rw [show Try.f4.params.size = 2 from rfl] at h
      match ds, h with
      | [d0, d1], _ => rfl) rfl rfl (by decide +kernel) os started H enc
    (ChangeSpec.witness6 (enc := enc) (C := Try.checked) false ⟨#[], #[.int .i64 0, .slice none 0 0], []⟩ 8 (by kernel_rfl) (by kernel_rfl) (by kernel_rfl) (by kernel_rfl)) ?_
  intro W base args ds p hval hA hsz _
  have hp : Try.f4.params.toList = [3, 29] := rfl
  rw [hp] at hA hsz
  obtain ⟨v0, v1, d0, d1, p0, p1, rfl, rfl, rfl, h0, h1⟩ := trodAll_two hA
  obtain ⟨a0, rfl, b0, c0⟩ := arg_int (hval 0 3 v0 rfl rfl) h0
  obtain ⟨l1, a1⟩ := arg_acts hsz (j := 1) rfl rfl (hval 1 29 v1 rfl rfl) h1
  exact diskRuns_law a0 v1 l1 W a1 (by omega)

theorem diskRuns_holds : Rows.DiskRunsSaid :=
  OpenClaim.holds_of_wide 4 Try.f4 rfl rfl rfl rfl rfl rfl rfl ⟨rfl, rfl, rfl, rfl, rfl⟩ rfl rfl rfl rfl rfl (by kernel_rfl) Try.func4 (by kernel_rfl)
    (of_decide_eq_true (by kernel_rfl)) (by unfold Func.isWrapper; first | (rw [if_pos (by decide +kernel)]; kernel_rfl) | (rw [if_neg (by decide +kernel)]; exact ⟨rfl, rfl⟩))
    (fun os started H enc _ => diskRuns_lifted os started H enc)
#print axioms diskRuns_holds

end Go.Proofs.Ytkcmhbinphgimaa
