/- The statement JournalBack in its second form: records that are written are read, whatever is behind them that is no record's beginning; and what is scanned is just what was written. Condition: what comes in is of bulk at most 1048576 (beyond what any machine has, the records found would be more than a slice can have). -/
import Derived.Test.YtfhecifgpjbeiaaJNames
import Derived.Test.YtfhecifgpjbeiaaJRf3
import Derived.Test.YtfhecifgpjbeiaaOwnW
import Derived.Test.YtfhecifgpjbeiaaOwnA
import Derived.Test.YtfhecifgpjbeiaaArgBU
import Derived.Test.YtfhecifgpjbeiaaLiftU
namespace Go.Proofs.Ytfhecifgpjbeiaa
open Go.RowKit Go.ChangeShapes Go.WideShapes Go.ChangeAt

theorem fst_zero : fst [0] = none := by
  cases h : fst [0] with
  | none => rfl
  | some r =>
    exfalso
    obtain ⟨h1, h2⟩ := fst_some h
    have h3 := h2.length_le
    rw [r.bs_eq h1] at h3
    have h4 := numL_pos r.pay.length
    have h5 : 4 ≤ r.pay.length := by
      have e : r.pay = numL (r.k + 1).toNat ++ (numL (r.i + 1).toNat ++ (numL (r.v + 1).toNat ++ (numL (r.x + 1).toNat ++ []))) ++ txL r.t := rfl
      have := numL_pos (r.k + 1).toNat; have := numL_pos (r.i + 1).toNat; have := numL_pos (r.v + 1).toNat; have := numL_pos (r.x + 1).toNat
      rw [e]; simp; omega
    simp at h3; omega
theorem recs_zero (dl : List RecD) (h : ∀ r ∈ dl, r.Ok) : recs (cat dl ++ [0]) = dl := by rw [recs_app dl h, recs_none fst_zero, List.append_nil]

set_option maxRecDepth 100000 in
set_option maxHeartbeats 6400000 in
theorem journalBack_law (v : Value) (l : List RecD) (b : Value) (lb : List Nat) (W : World) (hl : Recs 5 RecR W v l) (hb : Byt W b lb) (hlb : ∀ x ∈ lb, x < 256) (hlb2 : lb.length ≤ 1048576) :
    Calls Try.prog 7 #[v, b] W fun e w' => e = .returned (.bool true) ∧ Ext W w' := by
  refine calls_keep ?_
  by_cases hbig : 40 < l.length
  · have t0 : decide ((40 : Int) < (l.length : Int)) = true := by simp; omega
    clear hbig
    go_enter Try.func7, Try.ntmps7
    go_wp2_with (first
      | (go_at_call 10; refine (alive_any _).mono ?_; rintro e w1 ⟨rfl, hX⟩; (try simp only [Act.put, List.setIfInBounds_toArray, List.set_cons_zero, List.set_cons_succ]))
      | (refine w_rlen Try.elRec _ rfl rfl (v := v) rfl (hl.ext RecR.stays hX) ?_; (try simp only [Act.put, List.setIfInBounds_toArray, List.set_cons_zero, List.set_cons_succ]))
      | fail)
    go_ret
    exact Keep.intro ⟨rfl, hX⟩
  have t0 : decide ((40 : Int) < (l.length : Int)) = false := by simp; omega
  have h40 : l.length ≤ 40 := by omega
  clear hbig
  go_enter Try.func7, Try.ntmps7
  go_wp2_with (first
    | (go_at_call 10; refine (alive_any _).mono ?_; rintro e w1 ⟨rfl, hX⟩; (try simp only [Act.put, List.setIfInBounds_toArray, List.set_cons_zero, List.set_cons_succ]))
    | (refine w_bempty (o := ⟨some 25, _, _, _, _, _⟩) rfl rfl ?_; intro v5 w2 B hB1 hB2 hx o1; have hA := OwnA.of (W := W) o1 (Nat.le_trans hX.size hB1); replace hX := hX.trans hx; clear o1 hB1 hB2 hx; (try simp only [Act.put, List.setIfInBounds_toArray, List.set_cons_zero, List.set_cons_succ]))
    | (refine w_nnew (o := ⟨some 26, _, _, _, _, _⟩) Try.elRecN [] rfl rfl rfl (by simp) rfl (by omega) ?_; intro v6 w3 B hB1 hB2 hx hn; have hw := OwnW.empty (W := W) hn (fun k hk => Nat.le_trans hX.size (Nat.le_trans hB1 hk.1)); have hdis : ∀ k, v6.ownBlock = some k → ¬ v5.ownBlock = some k := (fun k hk h => by have := (hn.inF k hk).1; have := hA.lt h; omega); replace hA := hA.ext hx; replace hX := hX.trans hx; clear hn hx hB1 hB2; (try simp only [Act.put, List.setIfInBounds_toArray, List.set_cons_zero, List.set_cons_succ]))
    | (refine w_rlen Try.elRec _ rfl rfl (v := v) rfl (hl.ext RecR.stays hX) ?_; (try simp only [Act.put, List.setIfInBounds_toArray, List.set_cons_zero, List.set_cons_succ]))
    | fail)
  go_loopw [29, 5, 6] (fun i va vw wr => ∃ (k : Nat) (dl : List RecD), i = .int .i64 k ∧ k ≤ l.length ∧ dl.length ≤ k ∧ OwnA W wr 5 va (u8s (cat dl)) ∧ OwnW W wr vw dl ∧ Hid (∀ j, vw.ownBlock = some j → ¬ va.ownBlock = some j) ∧ Ext W wr ∧ Hid (∀ r ∈ dl, r.Ok ∧ ∀ x ∈ r.t, x < 256)) (fun i _ _ _ => l.length - (intOf i).toNat)
  case atStart => exact ⟨0, [], rfl, Nat.zero_le _, Nat.le_refl _, hA, hw, hide_ hdis, hX, hide_ (by simp)⟩
  case round =>
    clear hA hw hdis hX
    obtain ⟨k, dl, rfl, hk, hdk, hA, hw, hdisO, hX, hI⟩ := hrel
    obtain ⟨vw, hvw⟩ : ∃ vw, vw = u6 := ⟨_, rfl⟩
    obtain ⟨va, hva⟩ : ∃ va, va = u5 := ⟨_, rfl⟩
    rw [← hvw] at hw hdisO
    rw [← hva] at hA hdisO
    subst hvw hva
    have hdis := hdisO.out
    have hcl := cat_le dl (fun r hr => (hI.out r hr).1)
    by_cases hge : l.length ≤ k
    · have t1 : decide (k < l.length) = false := by simpa using hge
      have hrec := hide_ (recs_zero dl (fun r hr => (hI.out r hr).1))
      have hc1 := hide_ (show ∀ x ∈ cat dl ++ [0], x < 256 from fun x hx => (List.mem_append.1 hx).elim (fun h => cat_lt dl hI.out x h) (fun h => by simp at h; omega))
      have hc2 := hide_ (show (cat dl ++ [0]).length ≤ 1000000000000 from by simp; omega)
      have hbc := hide_ (show ([] : List Nat).length + (cat dl).length ≤ 140737488355328 from by simp; omega)
      have hbc2 := hide_ (show (cat dl).length + [0].length ≤ 140737488355328 from by simp; omega)
      have hlb2 := hide_ (show lb.length ≤ 1000000000000 from by omega)
      clear hge hk hdk hI hdis hdisO hcl
      go_wp2_with (first
        | (refine w_bempty (o := ⟨some 49, _, _, _, _, _⟩) rfl rfl ?_; intro v49 wn B hB1 hBl hxn o1; have hxb := hxn; clear hxn; (try simp only [Act.put, List.setIfInBounds_toArray, List.set_cons_zero, List.set_cons_succ]))
        | (refine appb (o := ⟨some 51, _, _, _, _, _⟩) _ _ rfl rfl rfl rfl o1 ((show Byt _ va (cat dl) from hA.sl).ext hxb) hbc.out hBl ?_; intro v51 wa o2 hba hga; rw [List.nil_append] at o2; replace hxb := hxb.trans' (hba.mono hB1); replace hBl := Nat.le_trans hBl hba.size; clear o1 hba hga; (try simp only [Act.put, List.setIfInBounds_toArray, List.set_cons_zero, List.set_cons_succ]))
        | (refine w_bytes [0] (o := ⟨some 52, _, _, _, _, _⟩) rfl rfl rfl rfl (by omega) ?_; intro v52 wb hx52 o52; have b52 := o52.byt; replace o2 := o2.ext hx52; replace hxb := hxb.trans hx52; replace hBl := Nat.le_trans hBl hx52.size; clear hx52 o52; (try simp only [Act.put, List.setIfInBounds_toArray, List.set_cons_zero, List.set_cons_succ]))
        | (refine appb (o := ⟨some 53, _, _, _, _, _⟩) _ _ rfl rfl rfl rfl o2 b52 hbc2.out hBl ?_; intro v53 wc o3 hbb hgb; have hx := hxb.trans' (hbb.mono hB1); have b53 := o3.byt; replace hA := hA.ext hx; replace hw := hw.ext hx; replace hX := hX.trans hx; clear o2 b52 hbb hgb hxb hBl hB1 hx o3; (try simp only [Act.put, List.setIfInBounds_toArray, List.set_cons_zero, List.set_cons_succ]))
        | (go_at_call 9; refine (Scan_any hc1.out hc2.out b53).mono ?_; rintro e wd ⟨v11, rfl, hx, hJ⟩; rw [hrec.out] at hJ; rw [hrec.out]; have j11 := hJ.recs; replace hA := hA.ext hx; replace hw := hw.ext hx; replace hX := hX.trans hx; have jw := hw.recs hX; have ba : Byt _ va (cat dl) := hA.sl; clear b53 hJ hx hA hw; (try simp only [Act.put, List.setIfInBounds_toArray, List.set_cons_zero, List.set_cons_succ]))
        | (refine b_len _ rfl rfl (v := va) rfl ba ?_; (try simp only [Act.put, List.setIfInBounds_toArray, List.set_cons_zero, List.set_cons_succ]))
        | ((try refine w_yes _ _ _ rfl rfl rfl ?_); go_at_call 14; refine (Same_yes j11 jw).mono ?_; rintro e we ⟨rfl, hx⟩; replace hX := hX.trans hx; clear j11 jw ba hx; (try simp only [Act.put, List.setIfInBounds_toArray, List.set_cons_zero, List.set_cons_succ]))
        | (refine w_bempty (o := ⟨some 68, _, _, _, _, _⟩) rfl rfl ?_; intro v68 wn B hB1 hBl hxn o1; have hxb := hxn; clear hxn; (try simp only [Act.put, List.setIfInBounds_toArray, List.set_cons_zero, List.set_cons_succ]))
        | (refine appb (o := ⟨some 70, _, _, _, _, _⟩) _ _ rfl rfl rfl rfl o1 ((hb.ext hX).ext hxb) (by simp; omega) hBl ?_; intro v70 wa o2 hba hga; rw [List.nil_append] at o2; have hx := hxb.trans' (hba.mono hB1); have b70 := o2.byt; replace hX := hX.trans hx; clear o1 hba hga hxb hBl hB1 hx o2; (try simp only [Act.put, List.setIfInBounds_toArray, List.set_cons_zero, List.set_cons_succ]))
        | (go_at_call 9; refine (Scan_any hlb hlb2.out b70).mono ?_; rintro e wd ⟨v13, rfl, hx, hJ⟩; have j13 := hJ.recs; replace hX := hX.trans hx; obtain ⟨W2, hW2⟩ : ∃ W2, W2 = wd := ⟨_, rfl⟩; have hX2 : Ext W2 wd := hW2 ▸ Ext.refl wd; have j2 : Recs 5 RecR W2 v13 (recs lb) := hW2 ▸ j13; have hXW : Ext W W2 := hW2 ▸ hX; clear b70 hJ hx j13 hX; (try simp only [Act.put, List.setIfInBounds_toArray, List.set_cons_zero, List.set_cons_succ]))
        | (refine w_bempty (o := ⟨some 74, _, _, _, _, _⟩) rfl rfl ?_; intro v15 wf B hB1 hB2 hx o1; have hA := OwnA.of (W := W2) o1 (Nat.le_trans hX2.size hB1); replace hX2 := hX2.trans hx; clear o1 hB1 hB2 hx hW2; (try simp only [Act.put, List.setIfInBounds_toArray, List.set_cons_zero, List.set_cons_succ]))
        | (refine w_rlen Try.elRec _ rfl rfl (v := v13) rfl (j2.ext RecR.stays hX2) ?_; (try simp only [Act.put, List.setIfInBounds_toArray, List.set_cons_zero, List.set_cons_succ]))
        | fail)
      obtain ⟨hK1, hK2⟩ := recs_ok lb.length lb (Nat.le_refl _)
      have hKle := hK2.length_le
      have hKl : (recs lb).length ≤ 9223372036854775807 := by have := j2.len_le; unfold maxLen at this; omega
      go_loopw [77, 15] (fun i vo wr => ∃ k : Nat, i = .int .i64 k ∧ k ≤ (recs lb).length ∧ OwnA W2 wr 5 vo (u8s (cat ((recs lb).take k))) ∧ Ext W2 wr) (fun i _ _ => (recs lb).length - (intOf i).toNat)
      case atStart => exact ⟨0, rfl, Nat.zero_le _, hA, hX2⟩
      case round =>
        clear hA hX2
        obtain ⟨k, rfl, hk, hA, hX2⟩ := hrel
        by_cases hge : (recs lb).length ≤ k
        · have t1 : decide (k < (recs lb).length) = false := by simpa using hge
          rw [List.take_of_length_le hge] at hA
          have bo : Byt _ u15 (cat (recs lb)) := hA.sl
          have t2 : decide ((cat (recs lb)).length ≤ lb.length) = true := by simpa using hKle
          have hcut := hide_ (show strN (lb.take (cat (recs lb)).length) = strN (cat (recs lb)) from by rw [← List.prefix_iff_eq_take.1 hK2])
          clear hge hk hA
          go_wp2
          refine wp_region_phx (by kernel_rfl) ?_; intro wd hxd; replace bo := bo.ext hxd; replace hX2 := hX2.trans hxd; have hb1 := (hb.ext hXW).ext hX2
          refine Ph.rest 0 14 (by kernel_rfl) ?_
          refine LinL.step (s := (.val (.int .i64 ((cat (recs lb)).length : Nat)))) [(14, none)] rfl (by kernel_rfl) (op_out 14 (.int .i64 ((cat (recs lb)).length : Nat)) rfl (.inl rfl) rfl) ?_
          refine LinL.step (s := (.val (b))) [(1, none)] rfl (by kernel_rfl) (op_out 1 (b) rfl (.inl rfl) rfl) ?_
          refine LinL.step (s := (.val (.int .i64 (lb.length : Nat)))) [(93, some 0)] rfl (by kernel_rfl) (op_runs rfl fun σ w' hx hg => ⟨_, runs_lenb (ρ := σ.eval) (w := w') (.tmp 93) rfl hg.1 (hb1.ext hx), rfl⟩) ?_
          refine LinL.step (s := (.val (.bool true))) [(92, some 2), (94, some 0)] rfl (by kernel_rfl) (op_runs rfl fun σ w' hx hg => ⟨(.bool true), by have h92 : σ.tmps.getD 92 undef = .int .i64 ((cat (recs lb)).length : Nat) := hg.1; have h94 : σ.tmps.getD 94 undef = .int .i64 (lb.length : Nat) := hg.2.1; unfold Runs execOp; simp [Act.eval, h92, h94, go_sem, t2, hKle], rfl⟩) ?_
          refine LinL.step (s := (.val (.bool true))) [(95, some 0)] rfl (by kernel_rfl) (op_copy 95 0 (.val (.bool true)) rfl (.inl rfl) rfl) ?_
          refine LinL.step (s := (.val (u15))) [(15, none), (96, some 0)] rfl (by kernel_rfl) (op_yes (reads := [(15, none)]) 4 96 0 true rfl rfl rfl (op_out 15 (u15) rfl (.inl rfl) rfl)) ?_
          refine LinL.step (s := (.val (.string (strN (cat (recs lb)))))) [(97, some 0), (96, some 1)] rfl (by kernel_rfl) (op_yes (reads := [(97, some 0)]) 4 96 1 true rfl rfl rfl (op_runs rfl fun σ w' hx hg => ⟨_, runs_str (ρ := σ.eval) (w := w') (.tmp 97) rfl hg.1 (bo.ext hx), rfl⟩)) ?_
          refine LinL.step (s := (.val (b))) [(1, none), (96, some 2)] rfl (by kernel_rfl) (op_yes (reads := [(1, none)]) 4 96 2 true rfl rfl rfl (op_out 1 (b) rfl (.inl rfl) rfl)) ?_
          refine LinL.step (s := (.val (.int .i64 ((cat (recs lb)).length : Nat)))) [(14, none), (96, some 3)] rfl (by kernel_rfl) (op_yes (reads := [(14, none)]) 4 96 3 true rfl rfl rfl (op_out 14 (.int .i64 ((cat (recs lb)).length : Nat)) rfl (.inl rfl) rfl)) ?_
          refine LinL.step (s := (.sl (u8s (lb.take ((cat (recs lb)).length))))) [(99, some 1), (100, some 0), (96, some 4)] rfl (by kernel_rfl) (op_yes (reads := [(99, some 1), (100, some 0)]) 4 96 4 true rfl rfl rfl (op_runs rfl fun σ w' hx hg => rcut (ρ := σ.eval) (w := w') (.tmp 99) rfl hg.1 (hb1.ext hx) 0 ((cat (recs lb)).length) (.inr ⟨rfl, rfl⟩) (.inl ⟨(.tmp 100), rfl, hg.2.1⟩) (by omega) (by omega) (by simp))) ?_
          refine LinL.step (s := (.val (.string (strN (lb.take ((cat (recs lb)).length)))))) [(101, some 0), (96, some 5)] rfl (by kernel_rfl) (op_yes (reads := [(101, some 0)]) 4 96 5 true rfl rfl rfl (op_runs rfl fun σ w' hx hg => ⟨_, runs_str (ρ := σ.eval) (w := w') (.tmp 101) rfl rfl hg.1, rfl⟩)) ?_
          refine LinL.step (s := (.val (.bool true))) [(98, some 4), (102, some 0), (96, some 6)] rfl (by kernel_rfl) (op_yes (reads := [(98, some 4), (102, some 0)]) 4 96 6 true rfl rfl rfl (op_runs rfl fun σ w' hx hg => ⟨(.bool true), by have h98 : σ.tmps.getD 98 undef = .string (strN (cat (recs lb))) := hg.1; have h102 : σ.tmps.getD 102 undef = .string (strN (lb.take ((cat (recs lb)).length))) := hg.2.1; unfold Runs execOp; simp [Act.eval, h98, h102, go_sem, hcut.out], rfl⟩)) ?_
          refine LinL.step (s := (.val (.bool true))) [(96, some 7), (103, some 0)] rfl (by kernel_rfl) (op_runs rfl fun σ w' hx hg => ⟨_, runs_pick_t (ρ := σ.eval) (w := w') (.tmp 96) (.tmp 103) (.const (.bool false)) rfl hg.1 hg.2.1, rfl⟩) ?_
          refine LinL.step (s := (.val (.bool true))) [(104, some 0)] rfl (by kernel_rfl) (op_copy 104 0 (.val (.bool true)) rfl (.inr rfl) rfl) ?_
          intro wN hxN
          simp only [Fin', List.reverse_cons, List.reverse_nil, List.nil_append, List.cons_append, List.drop_zero, List.drop_succ_cons, List.take_succ_cons, List.take_zero]
          intro q101 hq101
          simp only [Act.put, List.setIfInBounds_toArray, List.set_cons_zero, List.set_cons_succ]
          go_wp2
          go_ret
          exact Keep.intro ⟨rfl, (hXW.trans hX2).trans hxN⟩
        have hlt : k < (recs lb).length := by omega
        have t1 : decide (k < (recs lb).length) = true := by simpa using hlt
        obtain ⟨r, hlk⟩ : ∃ r, (recs lb)[k] = r := ⟨_, rfl⟩
        have hrok : r.Ok := hlk ▸ hK1 _ (List.getElem_mem hlt)
        have E1 := hide_ (show jErr r = 0 from if_pos hrok)
        have E2 := hide_ (show jB r = r.bs from if_pos hrok)
        have hcat := hide_ (show cat ((recs lb).take k) ++ r.bs = cat ((recs lb).take (k + 1)) from by rw [List.take_succ_eq_append_getElem hlt, hlk, cat_snoc])
        have hbd := hide_ (show ((u8s (cat ((recs lb).take k))).length + (u8s r.bs).length) * 1 ≤ 140737488355328 from by
          have := cat_mono (recs lb) (show k ≤ (recs lb).length by omega)
          rw [List.take_length] at this
          have := r.bs_len2 hrok
          rw [u8s_length, u8s_length]; omega)
        replace hlk := hide_ hlk
        clear hge hrok
        go_wp2_with (first
          | (refine w_ridx0 Try.elRec _ _ k RecR.stays rfl rfl rfl rfl j2 hX2 hlt ?_; rintro p row hrow hrl hr; rw [hlk.out] at hr; have hr1 := hr.one.2; (try simp only [Act.put, List.setIfInBounds_toArray, List.set_cons_zero, List.set_cons_succ]))
          | (refine w_pload Try.stRec _ rfl rfl rfl (hrow.ext hX2) hrl ?_; (try simp only [Act.put, List.setIfInBounds_toArray, List.set_cons_zero, List.set_cons_succ]))
          | (refine w_alloc Try.stRec rfl rfl ?_; intro g8 w4 hg hx4 f8; (try simp only [Act.put, List.setIfInBounds_toArray, List.set_cons_zero, List.set_cons_succ]))
          | (refine w_astore Try.stRec (us := row) _ _ rfl rfl rfl rfl rfl f8 rfl hrl hr1 ?_; intro w5 hm5 f5; replace f8 := f5; have hx := hm5.after hx4 (fun i e => e ▸ hg); replace hA := hA.ext hx; replace hX2 := hX2.trans hx; clear f5 hm5 hx4 hg hx hrow; (try simp only [Act.put, List.setIfInBounds_toArray, List.set_cons_zero, List.set_cons_succ]))
          | (go_at_call 11; refine (JBytes_any (RecR.stays _ _ _ _ hr hX2)).mono ?_; rintro e w6 ⟨v9, rfl, o9, hx⟩; rw [E1.out]; rw [E2.out] at o9; have b9 := o9.byt; replace hA := hA.ext hx; replace hX2 := hX2.trans hx; clear hx o9 f8; (try simp only [Act.put, List.setIfInBounds_toArray, List.set_cons_zero, List.set_cons_succ]))
          | (refine w_rapp Try.elB _ _ rfl rfl rfl rfl hA.own b9 (u8s_one _) hbd.out ?_; intro va' w7 hm7 hr7 _; have hA2 := hA.app hX2.size hr7; rw [← u8s_append, hcat.out] at hA2; replace hX2 := hm7.after hX2 hA.new; replace hA := hA2; clear hm7 hr7 hA2 b9; (try simp only [Act.put, List.setIfInBounds_toArray, List.set_cons_zero, List.set_cons_succ]))
          | (refine w_aload Try.stRec _ rfl rfl rfl f8 hrl ?_; (try simp only [Act.put, List.setIfInBounds_toArray, List.set_cons_zero, List.set_cons_succ]))
          | fail)
        go_roundw
        case rel => exact ⟨k + 1, by go_num, by omega, hA, hX2⟩
        case measure => simp [intOf]; omega
    have hlt : k < l.length := by omega
    have t1 : decide (k < l.length) = true := by simpa using hlt
    obtain ⟨r, hlk⟩ : ∃ r, l[k] = r := ⟨_, rfl⟩
    have hrt : ∀ x ∈ r.t, x < 256 := by
      have := recs_ok_of hl (p := fun d => ∀ x ∈ d.t, x < 256) (fun w row d h => h.2.t.1) l[k] (List.getElem_mem hlt)
      rwa [hlk] at this
    replace hlk := hide_ hlk
    clear hge
    by_cases hok : r.Ok
    · have E1 := hide_ (show jErr r = 0 from if_pos hok)
      have E2 := hide_ (show jB r = r.bs from if_pos hok)
      have hI2 := hide_ (show ∀ x ∈ dl ++ [r], x.Ok ∧ ∀ y ∈ x.t, y < 256 from fun x hx => (List.mem_append.1 hx).elim (hI.out x) (fun h => by rw [List.mem_singleton] at h; subst h; exact ⟨hok, hrt⟩))
      have hcat := hide_ (cat_snoc dl r).symm
      have hbd := hide_ (show ((u8s (cat dl)).length + (u8s r.bs).length) * 1 ≤ 140737488355328 from by have := r.bs_len2 hok; rw [u8s_length, u8s_length]; omega)
      clear hok hI hrt hcl
      go_wp2_with (first
        | (refine w_ridx0 Try.elRec _ _ k RecR.stays rfl rfl rfl rfl hl hX hlt ?_; rintro p row hrow hrl hr; rw [hlk.out] at hr; have hr1 := hr.one.2; (try simp only [Act.put, List.setIfInBounds_toArray, List.set_cons_zero, List.set_cons_succ]))
        | (refine w_pload Try.stRec _ rfl rfl rfl (hrow.ext hX) hrl ?_; (try simp only [Act.put, List.setIfInBounds_toArray, List.set_cons_zero, List.set_cons_succ]))
        | (refine w_alloc Try.stRec rfl rfl ?_; intro g8 w4 hg hx4 f8; have n8 : ¬ va.ownBlock = some g8 := (fun h => by have := hA.lt h; omega); (try simp only [Act.put, List.setIfInBounds_toArray, List.set_cons_zero, List.set_cons_succ]))
        | (refine w_astore Try.stRec (us := row) _ _ rfl rfl rfl rfl rfl f8 rfl hrl hr1 ?_; intro w5 hm5 f5; replace f8 := f5; have hx := hm5.after hx4 (fun i e => e ▸ hg); replace hA := hA.ext hx; replace hX := hX.trans hx; replace hw := hw.ext hx; clear f5 hm5 hx4 hg hx hrow; (try simp only [Act.put, List.setIfInBounds_toArray, List.set_cons_zero, List.set_cons_succ]))
        | (go_at_call 11; refine (JBytes_any (RecR.stays _ _ _ _ hr hX)).mono ?_; rintro e w6 ⟨v9, rfl, o9, hx⟩; rw [E1.out]; rw [E2.out] at o9; have b9 := o9.byt; replace f8 := f8.ext hx; replace hA := hA.ext hx; replace hw := hw.ext hx; replace hX := hX.trans hx; clear hx o9; (try simp only [Act.put, List.setIfInBounds_toArray, List.set_cons_zero, List.set_cons_succ]))
        | (refine w_rapp Try.elB _ _ rfl rfl rfl rfl hA.own b9 (u8s_one _) hbd.out ?_; intro va' w7 hm7 hr7 _; have hA2 := hA.app hX.size hr7; rw [← u8s_append, hcat.out] at hA2; have hdis2 := Row.off hr7 (F := fun k => vw.ownBlock = some k) (fun k hk => hw.lt hk) (fun k hk h => hdis k h hk); replace hdis : ∀ k, vw.ownBlock = some k → ¬ va'.ownBlock = some k := (fun k h hk => hdis2 k hk h); replace hw := hw.mod hm7 hdisO.out; replace f8 := f8.mod hm7 n8; replace hX := hm7.after hX hA.new; replace hA := hA2; clear hm7 hr7 hA2 hdis2 b9 n8; (try simp only [Act.put, List.setIfInBounds_toArray, List.set_cons_zero, List.set_cons_succ]))
        | (refine w_nnew Try.elRecN [row] rfl rfl rfl (by intro y hy; simp at hy; subst hy; exact hrl) rfl (by omega) ?_; intro vl w8 B hB1 hB2 hx hn5; have hl5 := hn5.slS; replace hA := hA.ext hx; replace hX := hX.trans hx; replace hw := hw.ext hx; clear hn5 hB1 hB2 hx f8; (try simp only [Act.put, List.setIfInBounds_toArray, List.set_cons_zero, List.set_cons_succ]))
        | (obtain ⟨⟨rows, h1, h2, h3⟩, h4⟩ := hw; refine w_napp Try.elRecN _ _ rfl rfl rfl rfl h1 hl5 (by simp) (by intro y hy; simp at hy; subst hy; exact hr1) (by simp; omega) ?_; intro vw' w9 hm9 hn9; have hw := OwnW.app hX.size h2 h3 h4 hr hn9; have hA2 := hA.mod hm9 (fun k hk e => hdis k e hk); replace hdis := RowN.off hn9 (F := fun k => va'.ownBlock = some k) (fun k hk => hA.lt hk) hdis; replace hA := hA2; replace hX := hm9.after hX h4; clear h1 h2 h3 h4 hl5 hm9 hn9 hA2; (try simp only [Act.put, List.setIfInBounds_toArray, List.set_cons_zero, List.set_cons_succ]))
        | (refine w_aload Try.stRec _ rfl rfl rfl f8 hrl ?_; (try simp only [Act.put, List.setIfInBounds_toArray, List.set_cons_zero, List.set_cons_succ]))
        | fail)
      go_roundw
      case rel => exact ⟨k + 1, dl ++ [r], by go_num, by omega, by simp; omega, hA, hw, hide_ hdis, hX, hI2⟩
      case measure => simp [intOf]; omega
    · have E1 := hide_ (show jErr r = 51 from if_neg hok)
      have E2 := hide_ (show jB r = [] from if_neg hok)
      clear hok hrt hcl
      go_wp2_with (first
        | (refine w_ridx0 Try.elRec _ _ k RecR.stays rfl rfl rfl rfl hl hX hlt ?_; rintro p row hrow hrl hr; rw [hlk.out] at hr; have hr1 := hr.one.2; (try simp only [Act.put, List.setIfInBounds_toArray, List.set_cons_zero, List.set_cons_succ]))
        | (refine w_pload Try.stRec _ rfl rfl rfl (hrow.ext hX) hrl ?_; (try simp only [Act.put, List.setIfInBounds_toArray, List.set_cons_zero, List.set_cons_succ]))
        | (refine w_alloc Try.stRec rfl rfl ?_; intro g8 w4 hg hx4 f8; have n8 : ¬ va.ownBlock = some g8 := (fun h => by have := hA.lt h; omega); (try simp only [Act.put, List.setIfInBounds_toArray, List.set_cons_zero, List.set_cons_succ]))
        | (refine w_astore Try.stRec (us := row) _ _ rfl rfl rfl rfl rfl f8 rfl hrl hr1 ?_; intro w5 hm5 f5; replace f8 := f5; have hx := hm5.after hx4 (fun i e => e ▸ hg); replace hA := hA.ext hx; replace hX := hX.trans hx; replace hw := hw.ext hx; clear f5 hm5 hx4 hg hx hrow; (try simp only [Act.put, List.setIfInBounds_toArray, List.set_cons_zero, List.set_cons_succ]))
        | (go_at_call 11; refine (JBytes_any (RecR.stays _ _ _ _ hr hX)).mono ?_; rintro e w6 ⟨v9, rfl, o9, hx⟩; rw [E1.out]; rw [E2.out] at o9; have b9 := o9.byt; replace f8 := f8.ext hx; replace hA := hA.ext hx; replace hw := hw.ext hx; replace hX := hX.trans hx; clear hx o9; (try simp only [Act.put, List.setIfInBounds_toArray, List.set_cons_zero, List.set_cons_succ]))
        | (refine w_aload Try.stRec _ rfl rfl rfl f8 hrl ?_; (try simp only [Act.put, List.setIfInBounds_toArray, List.set_cons_zero, List.set_cons_succ]))
        | fail)
      go_roundw
      case rel => exact ⟨k + 1, dl, by go_num, by omega, by omega, hA, hw, hdisO, hX, hI⟩
      case measure => simp [intOf]; omega

set_option maxRecDepth 100000 in
theorem journalBackUpto_lifted (os : Os) (started : os.Started) (H : Type) (enc : TypeId × Value → H) (F : Stop.Interp) :
    ReturnsInHanded {} Try.checked os 7 .any ((Rows.OpenSpec.upto Rows.journalBackSpec).pre6 enc Try.prog Try.f7 Rows.journalBackUptoRow.domain false) (((Rows.OpenSpec.upto Rows.journalBackSpec).at F).post enc Try.prog Try.f7 false true false false) := by
  refine law_lifted_upto (F := F) (s := Rows.journalBackSpec) (conds := Rows.journalBackUptoRow.domain) Try.func7 (by kernel_rfl) rfl (fun H ds h => by
      rw [show Try.f7.params.size = 2 from rfl] at h
      match ds, h with
      | [d0, d1], _ => rfl) rfl rfl (by decide +kernel) os started H enc
    (OpenSpec.witness (enc := enc) (C := Try.checked) (s := Rows.OpenSpec.upto Rows.journalBackSpec) (k := Rows.uptoSmall) rfl false ⟨#[], #[.slice none 0 0, .slice none 0 0], []⟩ 8 (by kernel_rfl) (by kernel_rfl) (by kernel_rfl) (x := ([.nil, .nil], [], [])) (by kernel_rfl) rfl (by kernel_rfl)) ?_
  intro W base args ds p hval hA hsz _ hbulk
  have hp : Try.f7.params.toList = [22, 26] := rfl
  rw [hp] at hA hsz
  obtain ⟨v0, v1, d0, d1, p0, p1, rfl, rfl, rfl, h0, h1⟩ := trodAll_two hA
  obtain ⟨l0, a0⟩ := arg_Recs hsz (j := 0) rfl rfl (hval 0 22 v0 rfl rfl) h0
  obtain ⟨l1, a1, b1, c1, k1⟩ := arg_bytesU hsz (j := 1) rfl rfl (hval 1 26 v1 rfl rfl) h1
  exact journalBack_law v0 l0 v1 l1 W a0 a1 b1 (by simp only [Rows.uptoBulkAll] at hbulk; omega)

theorem journalBackUpto_holds : Rows.JournalBackUptoSaid :=
  OpenClaim.holds_of_cond 7 Try.f7 rfl rfl rfl rfl rfl rfl rfl ⟨rfl, rfl, rfl, rfl, rfl⟩ rfl rfl rfl rfl rfl (by kernel_rfl) Try.func7 (by kernel_rfl)
    (of_decide_eq_true (by kernel_rfl)) (by unfold Func.isWrapper; first | (rw [if_pos (by decide +kernel)]; kernel_rfl) | (rw [if_neg (by decide +kernel)]; exact ⟨rfl, rfl⟩))
    (fun os started H enc _ F => journalBackUpto_lifted os started H enc F)
#print axioms journalBackUpto_holds

end Go.Proofs.Ytfhecifgpjbeiaa
