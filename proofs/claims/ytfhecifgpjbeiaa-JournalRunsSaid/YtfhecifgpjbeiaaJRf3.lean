/- The contracts of the document's Scan, Same and Add. -/
import Derived.Test.YtfhecifgpjbeiaaJRf2
namespace Go.Proofs.Ytfhecifgpjbeiaa
open Go.RowKit

set_option maxRecDepth 100000 in
set_option maxHeartbeats 1600000 in
theorem same_any {w : World} {row row' : List Value} {r : RecD} (h : RecR w row r) (h' : RecR w row' r) : Calls Try.prog 37 #[.agg row.toArray, .agg row'.toArray] w fun e w' => e = .returned (.bool true) ∧ Ext w w' := by
  obtain ⟨⟨u, rfl, hu⟩, _⟩ := h
  obtain ⟨⟨u', rfl, hu'⟩, _⟩ := h'
  refine calls_keep ?_
  go_enter Try.func37, Try.ntmps37
  go_wp2_with ((first
    | (refine w_box (o := ⟨some 2, _, _, _, _, _⟩) _ [.int .i64 r.k, .int .i64 r.i, .int .i64 r.v, .int .i64 r.x, u] rfl rfl rfl rfl ?_; intro g2 w1 hg2 hX f2)
    | (refine w_box (o := ⟨some 3, _, _, _, _, _⟩) _ [.int .i64 r.k, .int .i64 r.i, .int .i64 r.v, .int .i64 r.x, u'] rfl rfl rfl rfl ?_; intro g3 w2 hg3 hx3 f3; replace f2 := f2.ext hx3; replace hX := hX.trans hx3; clear hx3)
    | ((try refine w_yes _ _ _ rfl rfl rfl ?_); refine w_field Try.stRec _ _ _ rfl rfl rfl (by omega) ?_)
    | ((try refine w_yes _ _ _ rfl rfl rfl ?_); refine w_fload _ rfl rfl rfl f2 rfl (agg_of (by kernel_rfl)) ?_)
    | ((try refine w_yes _ _ _ rfl rfl rfl ?_); refine w_fload _ rfl rfl rfl f3 rfl (agg_of (by kernel_rfl)) ?_)
    | ((try refine w_yes _ _ _ rfl rfl rfl ?_); refine w_str _ rfl rfl (v := u) rfl (hu.ext hX) ?_)
    | ((try refine w_yes _ _ _ rfl rfl rfl ?_); refine w_str _ rfl rfl (v := u') rfl (hu'.ext hX) ?_)
    | fail) <;> (try simp only [Act.put, List.setIfInBounds_toArray, List.set_cons_zero, List.set_cons_succ]))
  go_ret
  exact Keep.intro ⟨rfl, hX⟩
theorem sameR {w : World} {a b : Value} {d : RecD} (ha : (Sp.recv RecR RecR.stays d).p a w) (hb : (Sp.recv RecR RecR.stays d).p b w) : Calls Try.prog 37 #[a, b] w fun e w' => ∃ v', e = .returned v' ∧ Ext w w' ∧ Sp.p (.val (.bool true)) v' w' := by
  obtain ⟨row, rfl, h1⟩ := ha
  obtain ⟨row', rfl, h2⟩ := hb
  exact (same_any h1 h2).mono fun e w' ⟨h3, h4⟩ => ⟨_, h3, h4, rfl⟩

set_option maxRecDepth 100000 in
set_option maxHeartbeats 1600000 in
theorem Same_yes {w : World} {a b : Value} {l : List RecD} (ha0 : Recs 5 RecR w a l) (hb0 : Recs 5 RecR w b l) : Calls Try.prog 14 #[a, b] w fun e w' => e = .returned (.bool true) ∧ Ext w w' := by
  refine calls_keep ?_
  have hmax : l.length ≤ 9223372036854775807 := by have := ha0.len_le; unfold maxLen at this; omega
  have ha := hide_ ha0
  have hb := hide_ hb0
  clear ha0 hb0
  go_enter Try.func14, Try.ntmps14
  go_wp2_with ((first
    | (refine w_rlen Try.elRec _ rfl rfl (v := a) rfl ha.out ?_)
    | (refine w_rlen Try.elRec _ rfl rfl (v := b) rfl hb.out ?_)
    | fail) <;> (try simp only [Act.put, List.setIfInBounds_toArray, List.set_cons_zero, List.set_cons_succ]))
  go_loopw [13] (fun i wr => ∃ k : Nat, i = .int .i64 k ∧ k ≤ l.length ∧ Ext w wr) (fun i _ => l.length - (intOf i).toNat)
  case atStart => exact ⟨0, rfl, Nat.zero_le _, Ext.refl _⟩
  case round =>
    obtain ⟨k, rfl, hk, hX⟩ := hrel
    by_cases hge : l.length ≤ k
    · have t1 : decide (k < l.length) = false := by simpa using hge
      clear hge hk
      go_wp2
      go_ret
      exact Keep.intro ⟨rfl, hX⟩
    have hlt : k < l.length := by omega
    have t1 : decide (k < l.length) = true := by simpa using hlt
    obtain ⟨d, hd⟩ : ∃ d, l[k]? = some d := ⟨_, List.getElem?_eq_getElem hlt⟩
    replace hd := hide_ hd
    clear hge hk
    go_wp2
    refine wp_region_phx (by kernel_rfl) ?_; intro wd hxd; have ha1 := ha.out.ext RecR.stays (hX.trans hxd); have hb1 := hb.out.ext RecR.stays (hX.trans hxd)
    refine Ph.rest 0 10 (by kernel_rfl) ?_
    refine LinL.step (s := (.val (a))) [(0, none)] rfl (by kernel_rfl) (op_out 0 (a) rfl (.inl rfl) rfl) ?_
    refine LinL.step (s := (.val (.int .i64 (k : Nat)))) [(5, none)] rfl (by kernel_rfl) (op_out 5 (.int .i64 (k : Nat)) rfl (.inl rfl) rfl) ?_
    refine LinL.step (s := (Sp.recp 5 RecR RecR.stays d)) [(16, some 1), (17, some 0)] rfl (by kernel_rfl) (op_runs rfl fun σ w' hx hg => rridx (ρ := σ.eval) (w := w') RecR.stays Try.elRec (.tmp 16) (.tmp 17) k rfl hg.1 hg.2.1 (ha1.ext RecR.stays hx) hd.out) ?_
    refine LinL.step (s := (Sp.recv RecR RecR.stays d)) [(18, some 0)] rfl (by kernel_rfl) (op_runs rfl fun σ w' hx hg => rrload (ρ := σ.eval) (w := w') RecR.stays Try.stRec (.tmp 18) rfl hg.1) ?_
    refine LinL.step (s := (.val (b))) [(1, none)] rfl (by kernel_rfl) (op_out 1 (b) rfl (.inl rfl) rfl) ?_
    refine LinL.step (s := (.val (.int .i64 (k : Nat)))) [(5, none)] rfl (by kernel_rfl) (op_out 5 (.int .i64 (k : Nat)) rfl (.inl rfl) rfl) ?_
    refine LinL.step (s := (Sp.recp 5 RecR RecR.stays d)) [(20, some 1), (21, some 0)] rfl (by kernel_rfl) (op_runs rfl fun σ w' hx hg => rridx (ρ := σ.eval) (w := w') RecR.stays Try.elRec (.tmp 20) (.tmp 21) k rfl hg.1 hg.2.1 (hb1.ext RecR.stays hx) hd.out) ?_
    refine LinL.step (s := (Sp.recv RecR RecR.stays d)) [(22, some 0)] rfl (by kernel_rfl) (op_runs rfl fun σ w' hx hg => rrload (ρ := σ.eval) (w := w') RecR.stays Try.stRec (.tmp 22) rfl hg.1) ?_
    refine LinL.step (s := (.val (.bool true))) [(19, some 4), (23, some 0)] rfl (by kernel_rfl) (op_calls 37 #[(.tmp 19), (.tmp 23)] #[28, 28] (fun σ => #[σ.tmps.getD 19 undef, σ.tmps.getD 23 undef]) rfl rfl (fun _ _ => rfl) fun σ w' hx hg => ⟨by skip; simp only [List.map_toArray, List.map_cons, List.map_nil, Act.eval], sameR hg.1 hg.2.1⟩) ?_
    refine LinL.step (s := (.val (.bool false))) [(24, some 0)] rfl (by kernel_rfl) (op_runs rfl fun σ w' hx hg => ⟨(.bool false), by have h24 : σ.tmps.getD 24 undef = .bool true := hg.1; unfold Runs execOp; simp [Act.eval, h24, go_sem], rfl⟩) ?_
    intro wN hxN
    simp only [Fin', Sp.recp, Sp.recv, List.reverse_cons, List.reverse_nil, List.nil_append, List.cons_append, List.drop_zero, List.take_succ_cons, List.take_zero]
    intro q18 hq18 q19 hq19 q22 hq22 q23 hq23
    simp only [Act.put, List.setIfInBounds_toArray, List.set_cons_zero, List.set_cons_succ]
    go_wp2
    go_roundw
    case rel => exact ⟨k + 1, by go_num, hlt, (hX.trans hxd).trans hxN⟩
    case measure => simp [intOf]; omega

theorem refFirst_yes {w : World} {v : Value} {l : List Nat} {r : RecD} (hf : fst l = some r) (hl : ∀ x ∈ l, x < 256) (hlen : l.length ≤ 140737488355328) (hv : Byt w v l) :
    Calls Try.prog 36 #[v] w fun e w' => ∃ row, e = .returned (.tuple #[.agg row.toArray, .int .i64 (r.bs.length : Nat), .bool true]) ∧ Ext w w' ∧ RecN w.heap.size w' row r := by
  have := refFirst_any hl hlen hv
  rw [hf] at this; exact this
theorem refFirst_no {w : World} {v : Value} {l : List Nat} (hf : fst l = none) (hl : ∀ x ∈ l, x < 256) (hlen : l.length ≤ 140737488355328) (hv : Byt w v l) :
    Calls Try.prog 36 #[v] w fun e w' => ∃ row, e = .returned (.tuple #[.agg row.toArray, .int .i64 0, .bool false]) ∧ Ext w w' ∧ RecN w.heap.size w' row RecD.zero := by
  have := refFirst_any hl hlen hv
  rw [hf] at this; exact this
theorem OwnJ.empty {lo : Nat} {w : World} {v : Value} {F : Nat → Prop} (h : RowN F w 28 5 v []) (hF : ∀ k, F k → lo ≤ k) : OwnJ lo w v [] :=
  ⟨⟨[], ⟨h.own, h.each, fun _ h => h⟩, rfl, fun k row d h => by simp at h⟩, fun k hk => hF k (h.inF k hk)⟩

set_option maxRecDepth 100000 in
set_option maxHeartbeats 1600000 in
theorem refScan_any {w : World} {v : Value} {l : List Nat} (hl : ∀ x ∈ l, x < 256) (hlen : l.length ≤ 1000000000000) (hv : Byt w v l) :
    Calls Try.prog 13 #[v] w fun e w' => ∃ v', e = .returned (.tuple #[v', .int .i64 ((cat (recs l)).length : Nat)]) ∧ Ext w w' ∧ OwnJ w.heap.size w' v' (recs l) := by
  refine calls_keep ?_
  go_enter Try.func13, Try.ntmps13
  go_wp2_with ((first
    | (refine w_nnew Try.elRecN [] rfl rfl rfl (by simp) rfl (by omega) ?_; intro v0 w1 B hB1 hB2 hX hn)
    | fail) <;> (try simp only [Act.put, List.setIfInBounds_toArray, List.set_cons_zero, List.set_cons_succ]))
  have hJ0 := OwnJ.empty (lo := w.heap.size) hn (fun k hk => Nat.le_trans hB1 hk.1)
  go_loopw [4, 5] (fun vr i wr => ∃ (at0 : Nat) (done : List RecD), i = .int .i64 at0 ∧ at0 ≤ l.length ∧ Hid (at0 = (cat done).length ∧ done.length ≤ at0 ∧ recs l = done ++ recs (l.drop at0)) ∧ OwnJ w.heap.size wr vr done ∧ Ext w wr) (fun _ i _ => l.length - (intOf i).toNat)
  case atStart => exact ⟨0, [], rfl, Nat.zero_le _, hide_ (by simp [cat]), hJ0, hX⟩
  case round =>
    clear hJ0 hX hn hB1 hB2
    obtain ⟨at0, done, rfl, hat0, hinv, hR, hX⟩ := hrel
    have hat := hide_ hat0
    have hdl := hide_ (show ∀ x ∈ l.drop at0, x < 256 from fun x hx => hl x (List.mem_of_mem_drop hx))
    have hdlen := hide_ (show (l.drop at0).length ≤ 140737488355328 from by simp; omega)
    cases hf : fst (l.drop at0) with
    | none =>
      have hall := hide_ (show recs l = done from by have := hinv.out.2.2; rw [recs_none hf, List.append_nil] at this; exact this)
      have hat1 := hide_ hinv.out.1
      replace hf := hide_ hf
      clear hinv hat0
      go_wp2_with ((first
        | (refine b_from _ _ at0 rfl rfl (v := v) rfl (hv.ext hX) rfl hat.out ?_; intro vd bd)
        | (go_at_call 36; refine (refFirst_no hf.out hdl.out hdlen.out bd).mono ?_; rintro e w2 ⟨row, rfl, hx2, hrow⟩; obtain ⟨hrl, hr1⟩ := hrow.recR.one; replace hR := hR.ext hx2; replace hX := hX.trans hx2; clear hx2 bd)
        | (refine w_alloc Try.stRec rfl rfl ?_; intro g6 w3 hg6 hx3 f6)
        | (refine w_astore Try.stRec (us := row) _ _ rfl rfl rfl rfl rfl f6 rfl hrl hr1 ?_; intro w4 hm4 f6'; replace f6 := f6'; have hx4 := hm4.after hx3 (fun i e => e ▸ hg6); replace hR := hR.ext hx4; replace hX := hX.trans hx4; clear f6' hm4 hx3 hx4 hg6)
        | fail) <;> (try simp only [Act.put, List.setIfInBounds_toArray, List.set_cons_zero, List.set_cons_succ]))
      go_ret2
      exact Keep.intro ⟨_, by rw [hall.out, hat1.out]; rfl, hX, by rw [hall.out]; exact hR⟩
    | some r =>
      obtain ⟨hrok, hpre⟩ := fst_some hf
      have hpos := r.bs_pos hrok
      have hle : r.bs.length ≤ l.length - at0 := by have := hpre.length_le; simpa using this
      have hinv2 := hide_ (show at0 + r.bs.length = (cat (done ++ [r])).length ∧ (done ++ [r]).length ≤ at0 + r.bs.length ∧ recs l = (done ++ [r]) ++ recs (l.drop (at0 + r.bs.length)) from by
        obtain ⟨i1, i2, i3⟩ := hinv.out
        refine ⟨by rw [cat_snoc, List.length_append, ← i1], by simp; omega, ?_⟩
        rw [i3, recs_some hf, List.drop_drop, List.append_assoc]; rfl)
      obtain ⟨⟨rows, h1, h2, h3⟩, h4⟩ := hR
      replace h3 := hide_ h3
      have hbig := hide_ (show (rows.length + [([] : List Value)].length) * 56 ≤ 140737488355328 from by have := hinv.out.2.1; simp; omega)
      have hadd := hide_ (show -9223372036854775808 ≤ ((at0 : Nat) : Int) + ((r.bs.length : Nat) : Int) ∧ ((at0 : Nat) : Int) + ((r.bs.length : Nat) : Int) ≤ 9223372036854775807 from by omega)
      replace hf := hide_ hf
      have hle2 : at0 + r.bs.length ≤ l.length := by omega
      have hpos2 : l.length - (at0 + r.bs.length) < l.length - at0 := by omega
      clear hinv hpre hle hpos hat0 hrok
      go_wp2_with ((first
        | (refine b_from _ _ at0 rfl rfl (v := v) rfl (hv.ext hX) rfl hat.out ?_; intro vd bd)
        | (go_at_call 36; refine (refFirst_yes hf.out hdl.out hdlen.out bd).mono ?_; rintro e w2 ⟨row, rfl, hx2, hrow⟩; obtain ⟨hrl, hr1⟩ := hrow.recR.one; replace hrow := hrow.recS (G := fun k => u4.ownBlock = some k) hX.size (fun k hk => h1.lt hk); replace h1 := h1.ext hx2; replace h3 := hide_ (RecS.exts h3.out hx2); replace hX := hX.trans hx2; clear hx2 bd)
        | (refine w_alloc Try.stRec rfl rfl ?_; intro g6 w3 hg6 hx3 f6)
        | (refine w_astore Try.stRec (us := row) _ _ rfl rfl rfl rfl rfl f6 rfl hrl hr1 ?_; intro w4 hm4 f6'; replace f6 := f6'; have hx4 := hm4.after hx3 (fun i e => e ▸ hg6); replace hrow := hrow.ext hx4; replace h1 := h1.ext hx4; replace h3 := hide_ (RecS.exts h3.out hx4); replace hX := hX.trans hx4; clear f6' hm4 hx3 hx4 hg6)
        | (refine w_aload Try.stRec _ rfl rfl rfl f6 hrl ?_)
        | (refine w_nnew Try.elRecN [row] rfl rfl rfl (by intro y hy; simp at hy; subst hy; exact hrl) rfl (by omega) ?_; intro vl w5 B hB1 hB2 hx5 hn5; have hl5 := hn5.slS; replace hrow := hrow.ext hx5; replace h1 := h1.ext hx5; replace h3 := hide_ (RecS.exts h3.out hx5); replace hX := hX.trans hx5; clear f6 hn5 hB1 hB2 hx5)
        | (refine w_napp Try.elRecN _ _ rfl rfl rfl rfl h1 hl5 (by simp) (by intro y hy; simp at hy; subst hy; exact hr1) hbig.out ?_; intro v9 w6 hm6 hn6; have hJ := OwnJ.app hX.size h1 h2 h3.out h4 hrow hm6 hn6; replace hX := hm6.after hX (fun k hk => h4 k hk); clear h1 h3 hl5 hrow hm6 hn6)
        | (refine wpList_runs rfl (runs_add _ _ ((at0 + r.bs.length : Nat) : Int) (by omega) hadd.out rfl rfl rfl) ?_)
        | fail) <;> (try simp only [Act.put, List.setIfInBounds_toArray, List.set_cons_zero, List.set_cons_succ]))
      go_roundw
      case rel => exact ⟨at0 + r.bs.length, done ++ [r], rfl, hle2, hinv2, hJ, hX⟩
      case measure => simp [intOf]; omega

set_option maxRecDepth 100000 in
set_option maxHeartbeats 1600000 in
theorem refAdd_any {G : Nat → Prop} {val : Value} {D : DSt} {w : World} {row : List Value} {r : RecD} (hG : ∀ k, G k → k < w.heap.size) (hrec : RecR w row r) (h : RD G w val D) :
    Calls Try.prog 18 #[val, .agg row.toArray] w fun e w' => ∃ val', e = .returned (.tuple #[val', .int .i64 (jAddE D r : Nat)]) ∧ Ext w w' ∧ RD G w' val' (jAdd D r) := by
  obtain ⟨⟨u, rfl, hu⟩, hraw⟩ := hrec
  obtain ⟨⟨v, rfl, hs⟩, ho⟩ := h
  have c1 : v.oneCell' = true := hs.sl.one'
  replace hraw := hide_ hraw
  refine calls_keep ?_
  have hG4 : ∀ {w' : World} {g4 : Nat}, Ext w w' → g4 < w'.heap.size → ∀ k, G k ∨ k = g4 → k < w'.heap.size := fun hx hg k hk => hk.elim (fun h => Nat.lt_of_lt_of_le (hG k h) hx.size) fun e => e ▸ hg
  have hS4 : ∀ {w' : World} {g4 : Nat}, Ext w w' → w.heap.size ≤ g4 → Safe (fun k => G k ∨ k = g4) w' v (u8s D.l) := fun hx hg => (hs.weak fun k hk h => h.elim id fun e => by omega).ext hx
  have HS := hide_ hs
  clear hs
  by_cases hok : r.Ok
  · have E1 := hide_ (show jErr r = 0 from if_pos hok)
    have E2 := hide_ (show jB r = r.bs from if_pos hok)
    have E3 := hide_ (show jAddE D r = D.err r.bs from if_pos hok)
    have E4 := hide_ (show jAdd D r = D.app r.bs from if_pos hok)
    clear hok
    go_enter Try.func18, Try.ntmps18
    go_wp2_with ((first
      | (refine w_box (o := ⟨some 2, _, _, _, _, _⟩) _ [v, .int .i64 D.s, .int .i64 D.lim] rfl rfl rfl rfl ?_; intro g2 w1 hg2 hX f2)
      | (refine w_box (o := ⟨some 3, _, _, _, _, _⟩) _ [.int .i64 r.k, .int .i64 r.i, .int .i64 r.v, .int .i64 r.x, u] rfl rfl rfl rfl ?_; intro g3 w2 hg3 hx3 f3; replace f2 := f2.ext hx3; replace hX := hX.trans hx3; clear hx3)
      | (refine w_alloc Try.stR rfl rfl ?_; intro g4 w3 hg4 hx4 f4; have hn4 := Nat.le_trans hX.size hg4; replace f2 := f2.ext hx4; replace f3 := f3.ext hx4; replace hX := hX.trans hx4; clear hx4)
      | (refine w_aload Try.stRec _ rfl rfl rfl f3 rfl ?_)
      | (refine w_aload Try.stR _ rfl rfl rfl f2 rfl ?_)
      | (go_at_call 12; refine (refBytes_any (RecR.made hu hraw.out hX)).mono ?_; rintro e w9 ⟨v9, rfl, o9, hx9⟩; rw [E1.out]; have b9 := o9.byt; rw [E2.out] at b9; replace f2 := f2.ext hx9; replace f4 := f4.ext hx9; replace hX := hX.trans hx9; clear hx9 o9)
      | (go_at_call 24; refine (RAppend_any (G := fun k => G k ∨ k = g4) (hG4 hX f4.lt) b9 (RD.made (D := D) (hS4 hX hn4) ho)).mono ?_; rintro e w8 ⟨val', rfl, hx8, hR⟩; obtain ⟨⟨vz, rfl, hZ⟩, hok2⟩ := hR; have cz : vz.oneCell' = true := hZ.sl.one'; replace f4 := f4.ext hx8; replace hX := hX.trans hx8; clear hx8)
      | (refine w_astore Try.stR (us := [vz, .int .i64 (D.app r.bs).s, .int .i64 (D.app r.bs).lim]) _ _ rfl rfl rfl rfl rfl f4 rfl rfl (List.forall_mem_cons.2 ⟨cz, List.forall_mem_cons.2 ⟨rfl, List.forall_mem_cons.2 ⟨rfl, by simp⟩⟩⟩) ?_; intro w5 hm5 f5; have hx5 := hm5.after hX (fun i e => e ▸ hn4); have hS5 := (hZ.mod' hm5 (fun j hj e => hZ.off j hj (.inr e))).weak (fun q _ h => .inl h))
      | fail) <;> (try simp only [Act.put, List.setIfInBounds_toArray, List.set_cons_zero, List.set_cons_succ]))
    exact bodyPost_ret (ret_two Try.stR rfl rfl rfl f5 rfl) rfl (Keep.intro ⟨_, by rw [E3.out]; rfl, hx5, by rw [E4.out]; exact RD.made (D := D.app r.bs) hS5 hok2⟩)
  · have E1 := hide_ (show jErr r = 51 from if_neg hok)
    have E2 := hide_ (show jB r = [] from if_neg hok)
    have E3 := hide_ (show jAddE D r = 51 from if_neg hok)
    have E4 := hide_ (show jAdd D r = D from if_neg hok)
    clear hok
    go_enter Try.func18, Try.ntmps18
    go_wp2_with ((first
      | (refine w_box (o := ⟨some 2, _, _, _, _, _⟩) _ [v, .int .i64 D.s, .int .i64 D.lim] rfl rfl rfl rfl ?_; intro g2 w1 hg2 hX f2)
      | (refine w_box (o := ⟨some 3, _, _, _, _, _⟩) _ [.int .i64 r.k, .int .i64 r.i, .int .i64 r.v, .int .i64 r.x, u] rfl rfl rfl rfl ?_; intro g3 w2 hg3 hx3 f3; replace f2 := f2.ext hx3; replace hX := hX.trans hx3; clear hx3)
      | (refine w_alloc Try.stR rfl rfl ?_; intro g4 w3 hg4 hx4 f4; have hn4 := Nat.le_trans hX.size hg4; replace f2 := f2.ext hx4; replace f3 := f3.ext hx4; replace hX := hX.trans hx4; clear hx4)
      | (refine w_aload Try.stRec _ rfl rfl rfl f3 rfl ?_)
      | (refine w_aload Try.stR _ rfl rfl rfl f2 rfl ?_)
      | (go_at_call 12; refine (refBytes_any (RecR.made hu hraw.out hX)).mono ?_; rintro e w9 ⟨v9, rfl, o9, hx9⟩; rw [E1.out]; have b9 := o9.byt; rw [E2.out] at b9; replace f2 := f2.ext hx9; replace f4 := f4.ext hx9; replace hX := hX.trans hx9; clear hx9 o9)
      | (refine w_astore Try.stR (us := [v, .int .i64 D.s, .int .i64 D.lim]) _ _ rfl rfl rfl rfl rfl f4 rfl rfl (List.forall_mem_cons.2 ⟨c1, List.forall_mem_cons.2 ⟨rfl, List.forall_mem_cons.2 ⟨rfl, by simp⟩⟩⟩) ?_; intro w5 hm5 f5; have hx5 := hm5.after hX (fun i e => e ▸ hn4))
      | fail) <;> (try simp only [Act.put, List.setIfInBounds_toArray, List.set_cons_zero, List.set_cons_succ]))
    exact bodyPost_ret (ret_two Try.stR rfl rfl rfl f5 rfl) rfl (Keep.intro ⟨_, by rw [E3.out]; rfl, hx5, by rw [E4.out]; exact RD.made (D := D) (HS.out.ext hx5) ho⟩)
end Go.Proofs.Ytfhecifgpjbeiaa
