/- name, empty and Same of the document's messages. · Two lists of asks that are alike. -/
import Derived.Test.YtajkjiegcmpjaaaMg2
import Derived.Test.YtajkjiegcmpjaaaPk19
namespace Go.Proofs.Ytajkjiegcmpjaaa
set_option maxHeartbeats 3200000
set_option maxRecDepth 100000
open Go.RowKit
theorem refMSame_any {w : World} {u1 u2 : Value} {a b : MsgD} (h1 : Recs 2 TxR w u1 a.bk.txs) (h2 : Recs 2 TxR w u2 b.bk.txs) : Calls Try.prog 36 #[.agg (mRow a u1).toArray, .agg (mRow b u2).toArray] w fun e w' => e = .returned (.bool (decide (a = b))) ∧ Ext w w' := by
  refine z2cz ?_
  replace h1 := hide_ h1
  replace h2 := hide_ h2
  by_cases e0 : a.kd = b.kd
  rotate_left
  · have q0 : (a.kd != b.kd) = true := by simpa using e0
    have hdec := hide_ (show decide (a = b) = false from decide_eq_false fun h => e0 (congrArg MsgD.kd h))
    clear e0
    go_enter Try.func36, Try.ntmps36
    go_wp2_with ((first | go_big_skip | (refine z1qz ?_; intro g1 w1 hg1 hX f1) | (refine z1rz ?_; intro g2 w2 hg2 hx2 f2; replace f1 := f1.ext hx2; replace hX := hX.trans hx2; clear hx2) | refine z1fz ?_ | refine zcz ?_ | fail) <;> (try refine z0z ?_))
    go_ret
    exact z20z
  have q0 : (a.kd != b.kd) = false := by simpa using e0
  by_cases e1 : a.fm = b.fm
  rotate_left
  · have q1 : (a.fm != b.fm) = true := by simpa using e1
    have hdec := hide_ (show decide (a = b) = false from decide_eq_false fun h => e1 (congrArg MsgD.fm h))
    clear e0 e1
    go_enter Try.func36, Try.ntmps36
    go_wp2_with ((first | go_big_skip | (refine z1qz ?_; intro g1 w1 hg1 hX f1) | (refine z1rz ?_; intro g2 w2 hg2 hx2 f2; replace f1 := f1.ext hx2; replace hX := hX.trans hx2; clear hx2) | refine z1fz ?_ | refine zcz ?_ | fail) <;> (try refine z0z ?_))
    go_ret
    exact z20z
  have q1 : (a.fm != b.fm) = false := by simpa using e1
  by_cases e2 : a.ix = b.ix
  rotate_left
  · have q2 : (a.ix != b.ix) = true := by simpa using e2
    have hdec := hide_ (show decide (a = b) = false from decide_eq_false fun h => e2 (congrArg MsgD.ix h))
    clear e0 e1 e2
    go_enter Try.func36, Try.ntmps36
    go_wp2_with ((first | go_big_skip | (refine z1qz ?_; intro g1 w1 hg1 hX f1) | (refine z1rz ?_; intro g2 w2 hg2 hx2 f2; replace f1 := f1.ext hx2; replace hX := hX.trans hx2; clear hx2) | refine z1fz ?_ | refine zcz ?_ | fail) <;> (try refine z0z ?_))
    go_ret
    exact z20z
  have q2 : (a.ix != b.ix) = false := by simpa using e2
  by_cases e3 : a.vw = b.vw
  rotate_left
  · have q3 : (a.vw != b.vw) = true := by simpa using e3
    have hdec := hide_ (show decide (a = b) = false from decide_eq_false fun h => e3 (congrArg MsgD.vw h))
    clear e0 e1 e2 e3
    go_enter Try.func36, Try.ntmps36
    go_wp2_with ((first | go_big_skip | (refine z1qz ?_; intro g1 w1 hg1 hX f1) | (refine z1rz ?_; intro g2 w2 hg2 hx2 f2; replace f1 := f1.ext hx2; replace hX := hX.trans hx2; clear hx2) | refine z1fz ?_ | refine zcz ?_ | fail) <;> (try refine z0z ?_))
    go_ret
    exact z20z
  have q3 : (a.vw != b.vw) = false := by simpa using e3
  by_cases e4 : a.vl = b.vl
  rotate_left
  · have q4 : (a.vl != b.vl) = true := by simpa using e4
    have hdec := hide_ (show decide (a = b) = false from decide_eq_false fun h => e4 (congrArg MsgD.vl h))
    clear e0 e1 e2 e3 e4
    go_enter Try.func36, Try.ntmps36
    go_wp2_with ((first | go_big_skip | (refine z1qz ?_; intro g1 w1 hg1 hX f1) | (refine z1rz ?_; intro g2 w2 hg2 hx2 f2; replace f1 := f1.ext hx2; replace hX := hX.trans hx2; clear hx2) | refine z1fz ?_ | refine zcz ?_ | fail) <;> (try refine z0z ?_))
    go_ret
    exact z20z
  have q4 : (a.vl != b.vl) = false := by simpa using e4
  by_cases e5 : a.pr = b.pr
  rotate_left
  · have q5 : (a.pr != b.pr) = true := by simpa using e5
    have hdec := hide_ (show decide (a = b) = false from decide_eq_false fun h => e5 (congrArg MsgD.pr h))
    clear e0 e1 e2 e3 e4 e5
    go_enter Try.func36, Try.ntmps36
    go_wp2_with ((first | go_big_skip | (refine z1qz ?_; intro g1 w1 hg1 hX f1) | (refine z1rz ?_; intro g2 w2 hg2 hx2 f2; replace f1 := f1.ext hx2; replace hX := hX.trans hx2; clear hx2) | refine z1fz ?_ | refine zcz ?_ | fail) <;> (try refine z0z ?_))
    go_ret
    exact z20z
  have q5 : (a.pr != b.pr) = false := by simpa using e5
  have e6 : [a.kd, a.fm, a.ix, a.vw, a.vl, a.pr] = [b.kd, b.fm, b.ix, b.vw, b.vl, b.pr] := by rw [e0, e1, e2, e3, e4, e5]
  clear e0 e1 e2 e3 e4 e5
  by_cases e7 : a.tx = b.tx
  rotate_left
  · have t2 := decide_eq_false e7
    have hdec := hide_ (show decide (a = b) = false from decide_eq_false fun h => e7 (congrArg MsgD.tx h))
    clear e6 e7
    go_enter Try.func36, Try.ntmps36
    go_wp2_with ((first | go_big_skip | (refine z1qz ?_; intro g1 w1 hg1 hX f1) | (refine z1rz ?_; intro g2 w2 hg2 hx2 f2; replace f1 := f1.ext hx2; replace hX := hX.trans hx2; clear hx2) | refine z3jz ?_ | ((with_reducible refine at_bin ?_); (try refine w_yes _ _ _ rfl rfl rfl ?_); refine w_txeq _ _ a.tx b.tx rfl rfl rfl rfl ?_; rw [t2]) | refine zcz ?_ | fail) <;> (try refine z0z ?_))
    go_ret
    exact z20z
  have t2 := decide_eq_true e7
  have hdec := hide_ (show decide (a = b) = a.bk.same b.bk from by
    cases hq : a.bk.same b.bk with
    | true => exact decide_eq_true (MsgD.eq_iff.2 ⟨e6, e7, BlkD.same_iff.1 hq⟩)
    | false => exact decide_eq_false fun h => by rw [BlkD.same_iff.2 (congrArg MsgD.bk h)] at hq; cases hq)
  clear e6 e7
  go_enter Try.func36, Try.ntmps36
  go_wp2_with ((first | go_big_skip | (go_at_call 47; refine (refBSame_any (b := a.bk) (b2 := b.bk) (u := u1) (u2 := u2) (h1.out.ext TxR.stays hX) (h2.out.ext TxR.stays hX)).mono ?_; rintro e w3 ⟨rfl, hx⟩; replace hX := hX.trans hx; clear hx) | (refine z1qz ?_; intro g1 w1 hg1 hX f1) | (refine z1rz ?_; intro g2 w2 hg2 hx2 f2; replace f1 := f1.ext hx2; replace hX := hX.trans hx2; clear hx2) | refine z3jz ?_ | ((with_reducible refine at_load ?_); (try refine w_yes _ _ _ rfl rfl rfl ?_); refine w_loadN Try.stBlkM _ (bRw a.bk u1) rfl rfl rfl f1 rfl (mbk_at a u1) ?_) | ((with_reducible refine at_load ?_); (try refine w_yes _ _ _ rfl rfl rfl ?_); refine w_loadN Try.stBlkM _ (bRw b.bk u2) rfl rfl rfl f2 rfl (mbk_at b u2) ?_) | ((with_reducible refine at_bin ?_); (try refine w_yes _ _ _ rfl rfl rfl ?_); refine w_txeq _ _ a.tx b.tx rfl rfl rfl rfl ?_; rw [t2]) | refine zcz ?_ | fail) <;> (try refine z0z ?_))
  go_ret
  exact z20z
end Go.Proofs.Ytajkjiegcmpjaaa
namespace Go.Proofs.Ytajkjiegcmpjaaa
set_option maxHeartbeats 3200000
set_option maxRecDepth 100000
open Go.RowKit
theorem at_addr {w : World} {v : Value} {me : Int} {l : List (Int × Int)} (h : Recs 14 (AtR me) w v l) {k : Nat} {d : Int × Int} (hd : l[k]? = some d) :
    ∃ ad c, v = .slice (some ad) l.length c ∧ RowAt w (ad.add (k * 14)) (askR me d) := by
  obtain ⟨rows, ⟨A, c, rfl, h1, h2, h3⟩, hl, hR⟩ := h
  have hk := (List.getElem?_eq_some_iff.1 hd).1
  have hrow := List.getElem?_eq_getElem (show k < rows.length by omega)
  obtain ⟨_, ad, rfl, hat⟩ := h3 k _ hrow
  have hr : rows[k] = askR me d := hR k _ _ hrow hd
  rw [hr] at hat
  exact ⟨ad, c, by rw [hl], hat⟩
theorem runs_ridxA {P : Program} {o : Oper} {ρ : Operand → Value} {w : World} {t e : TypeId} {n : Nat} (E : ElS P t e n) (x y : Operand) {ad : Addr} {len c i : Nat} (ho : o.op = .indexAddr t x y) (hv : ρ x = .slice (some ad) len c) (hy : ρ y = .int .i64 i) (hi : i < len) : Runs P o ρ w (.pointer (some (ad.add (i * n)))) := by
  obtain ⟨i0, hi0, hsz⟩ := E.info
  have hu := E.hu
  unfold Runs execOp
  simp [ho, hv, hy, Instr.indexAt, run_underlying hu, sizeOf, typeInfo, hi0, hsz, go_sem, hi]
theorem runs_ploadM {o : Oper} {ρ : Operand → Value} {w : World} {p : Addr} {me : Int} {d : Int × Int} (x : Operand) (ho : o.op = .load 57 x) (hx : ρ x = .pointer (some (p.add 1))) (h : RowAt w p (askR me d)) : Runs Try.prog o ρ w (.agg (mRow (askM me d.2) (.slice none 0 0)).toArray) := by
  obtain ⟨fs, hu⟩ := Try.stMsg.u
  obtain ⟨i0, hi, _, hs⟩ := Try.stMsg.info
  have hc := run_loadCells_list (P := Try.prog) w (p.add 1) (mRow (askM me d.2) (.slice none 0 0)) (fun j u hj => by
    rw [add_add']
    exact h (1 + j) u (by rw [Nat.add_comm]; exact hj))
  rw [show (mRow (askM me d.2) (.slice none 0 0)).length = 13 from rfl] at hc
  unfold Runs execOp
  simp [ho, hx, Instr.loadAt, Instr.sureAddr, loadVar, isAgg, run_underlying hu, sizeOf, typeInfo, hi, hs, hc]
theorem SameActs_any {w : World} {va vb : Value} {me : Int} {A : List (Int × Int)} (ha0 : Recs 14 (AtR me) w va A) (hb0 : Recs 14 (AtR me) w vb A) :
    Calls Try.prog 23 #[va, vb] w fun e w' => e = .returned (.bool true) ∧ Ext w w' := by
  refine z2cz ?_
  have hmax := ha0.len_le
  unfold maxLen at hmax
  have ha := hide_ ha0
  have hb := hide_ hb0
  have hX := Ext.refl w
  clear ha0 hb0
  go_enter Try.func23, Try.ntmps23
  go_wp2_with ((first | ((with_reducible refine at_bi ?_); refine w_rlen Try.elAt (.tmp 6) rfl rfl rfl ha.out ?_) | ((with_reducible refine at_bi ?_); refine w_rlen Try.elAt (.tmp 8) rfl rfl rfl hb.out ?_) | ((with_reducible refine at_bi ?_); refine w_rlen Try.elAt (.tmp 11) rfl rfl rfl ha.out ?_) | fail) <;> (try refine z0z ?_))
  go_loopw [13] (fun i wr => ∃ k : Nat, i = .int .i64 k ∧ k ≤ A.length ∧ Ext w wr) (fun i _ => A.length - (RowKit.intOf i).toNat)
  case atStart => exact ⟨0, rfl, Nat.zero_le _, hX⟩
  case round =>
    clear hX
    obtain ⟨k, rfl, hk, hX⟩ := hrel
    by_cases hge : A.length ≤ k
    · obtain rfl : k = A.length := by omega
      have t2 : decide (A.length < A.length) = false := by simp
      clear hge
      go_wp2
      go_ret
      exact z2dz
    have hlt : k < A.length := by omega
    have t2 : decide (k < A.length) = true := by simpa using hlt
    obtain ⟨y, hy⟩ : ∃ y, A[k]? = some y := ⟨_, List.getElem?_eq_getElem hlt⟩
    obtain ⟨ada, ca, hva, hra0⟩ := at_addr ha.out hy
    obtain ⟨adb, cb, hvb, hrb0⟩ := at_addr hb.out hy
    have hra := hide_ hra0
    have hrb := hide_ hrb0
    have hk' := hide_ hlt
    have hkb : k < 9223372036854775807 := by omega
    clear hge hlt hy hra0 hrb0
    subst hva hvb
    go_wp2
    refine zpz ?_; intro wd hxd; have RA := hra.out.ext (hX.trans hxd); have RB := hrb.out.ext (hX.trans hxd)
    refine Ph.rest 0 25 (by kernel_rfl) ?_
    refine LinL.step (s := (.val (.slice (some ada) A.length ca))) [(0, none)] rfl (by kernel_rfl) (op_out 0 (.slice (some ada) A.length ca) rfl (.inl rfl) rfl) ?_
    refine LinL.step (s := (.val (.int .i64 (k : Nat)))) [(5, none)] rfl (by kernel_rfl) (op_out 5 (.int .i64 (k : Nat)) rfl (.inl rfl) rfl) ?_
    refine LinL.step (s := (.val (.pointer (some (ada.add (k * 14)))))) [(16, some 1), (17, some 0)] rfl (by kernel_rfl) (op_runs rfl fun σ w' hx hg => ⟨_, runs_ridxA (ρ := σ.eval) (w := w') Try.elAt (.tmp 16) (.tmp 17) rfl hg.1 hg.2.1 hk'.out, rfl⟩) ?_
    refine LinL.step (s := (.val (.pointer (some ((ada.add (k * 14)).add 0))))) [(18, some 0)] rfl (by kernel_rfl) (op_runs rfl fun σ w' hx hg => ⟨_, runs_pfieldB (ρ := σ.eval) (w := w') (i := 0) (off := 0) (by kernel_rfl) (.tmp 18) rfl hg.1, rfl⟩) ?_
    refine LinL.step (s := (.val (.int .i64 y.1))) [(19, some 0)] rfl (by kernel_rfl) (op_runs rfl fun σ w' hx hg => ⟨_, runs_rowload (ρ := σ.eval) (w := w') (.tmp 19) (i := 0) rfl hg.1 (RA.ext hx) rfl (agg_of (by kernel_rfl) _), rfl⟩) ?_
    refine LinL.step (s := (.val (.slice (some adb) A.length cb))) [(1, none)] rfl (by kernel_rfl) (op_out 1 (.slice (some adb) A.length cb) rfl (.inl rfl) rfl) ?_
    refine LinL.step (s := (.val (.int .i64 (k : Nat)))) [(5, none)] rfl (by kernel_rfl) (op_out 5 (.int .i64 (k : Nat)) rfl (.inl rfl) rfl) ?_
    refine LinL.step (s := (.val (.pointer (some (adb.add (k * 14)))))) [(21, some 1), (22, some 0)] rfl (by kernel_rfl) (op_runs rfl fun σ w' hx hg => ⟨_, runs_ridxA (ρ := σ.eval) (w := w') Try.elAt (.tmp 21) (.tmp 22) rfl hg.1 hg.2.1 hk'.out, rfl⟩) ?_
    refine LinL.step (s := (.val (.pointer (some ((adb.add (k * 14)).add 0))))) [(23, some 0)] rfl (by kernel_rfl) (op_runs rfl fun σ w' hx hg => ⟨_, runs_pfieldB (ρ := σ.eval) (w := w') (i := 0) (off := 0) (by kernel_rfl) (.tmp 23) rfl hg.1, rfl⟩) ?_
    refine LinL.step (s := (.val (.int .i64 y.1))) [(24, some 0)] rfl (by kernel_rfl) (op_runs rfl fun σ w' hx hg => ⟨_, runs_rowload (ρ := σ.eval) (w := w') (.tmp 24) (i := 0) rfl hg.1 (RB.ext hx) rfl (agg_of (by kernel_rfl) _), rfl⟩) ?_
    refine LinL.step (s := (.val (.bool false))) [(20, some 5), (25, some 0)] rfl (by kernel_rfl) (op_runs rfl fun σ w' hx hg => ⟨(.bool false), by have h20 : σ.tmps.getD 20 undef = .int .i64 y.1 := hg.1; have h25 : σ.tmps.getD 25 undef = .int .i64 y.1 := hg.2.1; unfold Runs execOp; simp [Act.eval, h20, h25, go_sem], rfl⟩) ?_
    refine LinL.step (s := (.val (.bool false))) [(26, some 0)] rfl (by kernel_rfl) (op_copy 26 0 (.val (.bool false)) rfl (.inl rfl) rfl) ?_
    refine LinL.step (s := (.val (.slice (some ada) A.length ca))) [(0, none), (27, some 0)] rfl (by kernel_rfl) (op_yes (reads := [(0, none)]) 11 27 0 false rfl rfl rfl (op_out 0 (.slice (some ada) A.length ca) rfl (.inl rfl) rfl)) ?_
    refine LinL.step (s := (.val (.int .i64 (k : Nat)))) [(5, none), (27, some 1)] rfl (by kernel_rfl) (op_yes (reads := [(5, none)]) 11 27 1 false rfl rfl rfl (op_out 5 (.int .i64 (k : Nat)) rfl (.inl rfl) rfl)) ?_
    refine LinL.step (s := (.val (.pointer (some (ada.add (k * 14)))))) [(28, some 1), (29, some 0), (27, some 2)] rfl (by kernel_rfl) (op_yes (reads := [(28, some 1), (29, some 0)]) 11 27 2 false rfl rfl rfl (op_runs rfl fun σ w' hx hg => ⟨_, runs_ridxA (ρ := σ.eval) (w := w') Try.elAt (.tmp 28) (.tmp 29) rfl hg.1 hg.2.1 hk'.out, rfl⟩)) ?_
    refine LinL.step (s := (.val (.pointer (some ((ada.add (k * 14)).add 1))))) [(30, some 0), (27, some 3)] rfl (by kernel_rfl) (op_yes (reads := [(30, some 0)]) 11 27 3 false rfl rfl rfl (op_runs rfl fun σ w' hx hg => ⟨_, runs_pfieldB (ρ := σ.eval) (w := w') (i := 1) (off := 1) (by kernel_rfl) (.tmp 30) rfl hg.1, rfl⟩)) ?_
    refine LinL.step (s := (.val (.agg (mRow (askM me y.2) (.slice none 0 0)).toArray))) [(31, some 0), (27, some 4)] rfl (by kernel_rfl) (op_yes (reads := [(31, some 0)]) 11 27 4 false rfl rfl rfl (op_runs rfl fun σ w' hx hg => ⟨_, runs_ploadM (ρ := σ.eval) (w := w') (.tmp 31) rfl hg.1 (RA.ext hx), rfl⟩)) ?_
    refine LinL.step (s := (.val (.slice (some adb) A.length cb))) [(1, none), (27, some 5)] rfl (by kernel_rfl) (op_yes (reads := [(1, none)]) 11 27 5 false rfl rfl rfl (op_out 1 (.slice (some adb) A.length cb) rfl (.inl rfl) rfl)) ?_
    refine LinL.step (s := (.val (.int .i64 (k : Nat)))) [(5, none), (27, some 6)] rfl (by kernel_rfl) (op_yes (reads := [(5, none)]) 11 27 6 false rfl rfl rfl (op_out 5 (.int .i64 (k : Nat)) rfl (.inl rfl) rfl)) ?_
    refine LinL.step (s := (.val (.pointer (some (adb.add (k * 14)))))) [(33, some 1), (34, some 0), (27, some 7)] rfl (by kernel_rfl) (op_yes (reads := [(33, some 1), (34, some 0)]) 11 27 7 false rfl rfl rfl (op_runs rfl fun σ w' hx hg => ⟨_, runs_ridxA (ρ := σ.eval) (w := w') Try.elAt (.tmp 33) (.tmp 34) rfl hg.1 hg.2.1 hk'.out, rfl⟩)) ?_
    refine LinL.step (s := (.val (.pointer (some ((adb.add (k * 14)).add 1))))) [(35, some 0), (27, some 8)] rfl (by kernel_rfl) (op_yes (reads := [(35, some 0)]) 11 27 8 false rfl rfl rfl (op_runs rfl fun σ w' hx hg => ⟨_, runs_pfieldB (ρ := σ.eval) (w := w') (i := 1) (off := 1) (by kernel_rfl) (.tmp 35) rfl hg.1, rfl⟩)) ?_
    refine LinL.step (s := (.val (.agg (mRow (askM me y.2) (.slice none 0 0)).toArray))) [(36, some 0), (27, some 9)] rfl (by kernel_rfl) (op_yes (reads := [(36, some 0)]) 11 27 9 false rfl rfl rfl (op_runs rfl fun σ w' hx hg => ⟨_, runs_ploadM (ρ := σ.eval) (w := w') (.tmp 36) rfl hg.1 (RB.ext hx), rfl⟩)) ?_
    refine LinL.step (s := (.val (.bool true))) [(32, some 5), (37, some 0), (27, some 10)] rfl (by kernel_rfl) (op_yes (reads := [(32, some 5), (37, some 0)]) 11 27 10 false rfl rfl rfl (op_calls 36 #[(.tmp 32), (.tmp 37)] #[57, 57] (fun σ => #[.agg (mRow (askM me y.2) (.slice none 0 0)).toArray, .agg (mRow (askM me y.2) (.slice none 0 0)).toArray]) rfl rfl (fun _ _ => rfl) fun σ w' hx hg => ⟨by have h32 : σ.tmps.getD 32 undef = .agg (mRow (askM me y.2) (.slice none 0 0)).toArray := hg.1; have h37 : σ.tmps.getD 37 undef = .agg (mRow (askM me y.2) (.slice none 0 0)).toArray := hg.2.1; simp only [List.map_toArray, List.map_cons, List.map_nil, Act.eval, h32, h37], retF (by have h := refMSame_any (w := w') (a := askM me y.2) (b := askM me y.2) (u1 := .slice none 0 0) (u2 := .slice none 0 0) (OwnT.nil 0 _).recs (OwnT.nil 0 _).recs; rw [decide_eq_true rfl] at h; exact h)⟩)) ?_
    refine LinL.step (s := (.val (.bool false))) [(38, some 0), (27, some 11)] rfl (by kernel_rfl) (op_yes (reads := [(38, some 0)]) 11 27 11 false rfl rfl rfl (op_runs rfl fun σ w' hx hg => ⟨(.bool false), by have h38 : σ.tmps.getD 38 undef = .bool true := hg.1; unfold Runs execOp; simp [Act.eval, h38, go_sem], rfl⟩)) ?_
    refine LinL.step (s := (.val (.bool false))) [(27, some 12), (39, some 0)] rfl (by kernel_rfl) (op_runs rfl fun σ w' hx hg => ⟨_, runs_pick_f (ρ := σ.eval) (w := w') (.tmp 27) (.const (.bool true)) (.tmp 39) rfl hg.1 hg.2.1, rfl⟩) ?_
    intro wN hxN
    refine z1dz ?_
    replace hX := hX.trans (hxd.trans hxN)
    go_wp2
    go_roundw
    case rel => exact ⟨k + 1, by go_num, hk'.out, hX⟩
    case measure => have := hk'.out; simp [RowKit.intOf]; omega
end Go.Proofs.Ytajkjiegcmpjaaa
