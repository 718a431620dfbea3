/- The contracts of Same, Copy and Bytes of package block, and of the document's; the chapter's example. -/
import Derived.Test.YtcjmcnepfnhnlaaBk0
namespace Go.Proofs.Ytcjmcnepfnhnlaa
open Go.RowKit

set_option maxRecDepth 100000 in
set_option maxHeartbeats 1600000 in
theorem SEqual_any {W : World} {a b : Value} {l m : List TxD} (ha0 : Recs 2 TxR W a l) (hb0 : Recs 2 TxR W b m) :
    Calls Try.prog 33 #[a, b] W fun e w' => e = .returned (.bool (decide (l = m))) ∧ Ext W w' := by
  refine calls_keep ?_
  have hmax : l.length ≤ 9223372036854775807 := by have := ha0.len_le; unfold maxLen at this; omega
  have ha := hide_ ha0
  have hb := hide_ hb0
  clear ha0 hb0
  by_cases hlm : l.length = m.length
  rotate_left
  · have t1 : ((l.length : Int) == (m.length : Int)) = false := by rw [beq_eq_false_iff_ne]; omega
    have hno := hide_ (show decide (l = m) = false from decide_eq_false fun h => hlm (by rw [h]))
    clear hlm
    go_enter Try.func33, Try.ntmps33
    go_wp2_with ((first
      | (refine w_rlen Try.elTx _ rfl rfl (v := a) rfl ha.out ?_)
      | (refine w_rlen Try.elTx _ rfl rfl (v := b) rfl hb.out ?_)
      | fail) <;> (try simp only [Act.put, List.setIfInBounds_toArray, List.set_cons_zero, List.set_cons_succ]))
    go_ret
    exact Keep.intro ⟨by rw [hno.out]; rfl, Ext.refl _⟩
  have t1 : ((l.length : Int) == (m.length : Int)) = true := by rw [beq_iff_eq]; omega
  replace hlm := hide_ hlm
  go_enter Try.func33, Try.ntmps33
  go_wp2_with ((first
    | (refine w_rlen Try.elTx _ rfl rfl (v := a) rfl ha.out ?_)
    | (refine w_rlen Try.elTx _ rfl rfl (v := b) rfl hb.out ?_)
    | fail) <;> (try simp only [Act.put, List.setIfInBounds_toArray, List.set_cons_zero, List.set_cons_succ]))
  go_loopw [13] (fun i wr => ∃ k : Nat, i = .int .i64 k ∧ k ≤ l.length ∧ Hid (l.take k = m.take k) ∧ Ext W wr) (fun i _ => l.length - (intOf i).toNat)
  case atStart => exact ⟨0, rfl, Nat.zero_le _, hide_ rfl, Ext.refl _⟩
  case round =>
    obtain ⟨k, rfl, hk, heq, hX⟩ := hrel
    by_cases hge : l.length ≤ k
    · obtain rfl : k = l.length := by omega
      have t2 : decide (l.length < l.length) = false := by simp
      have hyes := hide_ (show decide (l = m) = true from decide_eq_true (by have := heq.out; rw [List.take_length] at this; rw [hlm.out, List.take_length] at this; exact this))
      clear hge heq
      go_wp2
      go_ret
      exact Keep.intro ⟨by rw [hyes.out]; rfl, hX⟩
    have hlt : k < l.length := by omega
    have t2 : decide (k < l.length) = true := by simpa using hlt
    obtain ⟨d, hd0⟩ : ∃ d, l[k]? = some d := ⟨_, List.getElem?_eq_getElem hlt⟩
    obtain ⟨d2, hd20⟩ : ∃ d2, m[k]? = some d2 := ⟨_, List.getElem?_eq_getElem (by have := hlm.out; omega)⟩
    have hd := hide_ hd0
    have hd2 := hide_ hd20
    clear hge hd0 hd20
    by_cases hdd : d = d2
    · have hc := hide_ (show (!decide (d = d2)) = false from by simp [hdd])
      have heq2 := hide_ (show l.take (k + 1) = m.take (k + 1) from by rw [List.take_add_one, List.take_add_one, heq.out, hd.out, hd2.out, hdd])
      clear heq hdd
      go_wp2
      refine wp_region_phx (by kernel_rfl) ?_; intro wd hxd; have ha1 := ha.out.ext TxR.stays (hX.trans hxd); have hb1 := hb.out.ext TxR.stays (hX.trans hxd)
      refine Ph.rest 0 9 (by kernel_rfl) ?_
      refine LinL.step (s := (.val (a))) [(0, none)] rfl (by kernel_rfl) (op_out 0 (a) rfl (.inl rfl) rfl) ?_
      refine LinL.step (s := (.val (.int .i64 (k : Nat)))) [(5, none)] rfl (by kernel_rfl) (op_out 5 (.int .i64 (k : Nat)) rfl (.inl rfl) rfl) ?_
      refine LinL.step (s := (Sp.recp 2 TxR TxR.stays d)) [(16, some 1), (17, some 0)] rfl (by kernel_rfl) (op_runs rfl fun σ w' hx hg => rridx (ρ := σ.eval) (w := w') TxR.stays Try.elTx (.tmp 16) (.tmp 17) k rfl hg.1 hg.2.1 (ha1.ext TxR.stays hx) hd.out) ?_
      refine LinL.step (s := (Sp.recv TxR TxR.stays d)) [(18, some 0)] rfl (by kernel_rfl) (op_runs rfl fun σ w' hx hg => rrload (ρ := σ.eval) (w := w') TxR.stays Try.stTx (.tmp 18) rfl hg.1) ?_
      refine LinL.step (s := (.val (b))) [(1, none)] rfl (by kernel_rfl) (op_out 1 (b) rfl (.inl rfl) rfl) ?_
      refine LinL.step (s := (.val (.int .i64 (k : Nat)))) [(5, none)] rfl (by kernel_rfl) (op_out 5 (.int .i64 (k : Nat)) rfl (.inl rfl) rfl) ?_
      refine LinL.step (s := (Sp.recp 2 TxR TxR.stays d2)) [(20, some 1), (21, some 0)] rfl (by kernel_rfl) (op_runs rfl fun σ w' hx hg => rridx (ρ := σ.eval) (w := w') TxR.stays Try.elTx (.tmp 20) (.tmp 21) k rfl hg.1 hg.2.1 (hb1.ext TxR.stays hx) hd2.out) ?_
      refine LinL.step (s := (Sp.recv TxR TxR.stays d2)) [(22, some 0)] rfl (by kernel_rfl) (op_runs rfl fun σ w' hx hg => rrload (ρ := σ.eval) (w := w') TxR.stays Try.stTx (.tmp 22) rfl hg.1) ?_
      refine LinL.step (s := (.val (.bool false))) [(19, some 4), (23, some 0)] rfl (by kernel_rfl) (op_runs rfl fun σ w' hx hg => rtxne (ρ := σ.eval) (w := w') (.tmp 19) (.tmp 23) rfl hg.1 hg.2.1 hc.out) ?_
      intro wN hxN
      simp only [Fin', Sp.recp, Sp.recv, List.reverse_cons, List.reverse_nil, List.nil_append, List.cons_append, List.drop_zero, List.take_succ_cons, List.take_zero]
      intro q18 hq18 q19 hq19 q22 hq22 q23 hq23
      simp only [Act.put, List.setIfInBounds_toArray, List.set_cons_zero, List.set_cons_succ]
      replace hX := hX.trans (hxd.trans hxN)
      clear hxd hxN ha1 hb1 hq18 hq19 hq22 hq23
      go_wp2
      go_roundw
      case rel => exact ⟨k + 1, by go_num, by omega, heq2, hX⟩
      case measure => simp [intOf]; omega
    · have hc := hide_ (show (!decide (d = d2)) = true from by simp [hdd])
      have hno := hide_ (show decide (l = m) = false from decide_eq_false fun h => hdd (by subst h; have := hd.out.symm.trans hd2.out; injection this))
      clear heq hdd
      go_wp2
      refine wp_region_phx (by kernel_rfl) ?_; intro wd hxd; have ha1 := ha.out.ext TxR.stays (hX.trans hxd); have hb1 := hb.out.ext TxR.stays (hX.trans hxd)
      refine Ph.rest 0 9 (by kernel_rfl) ?_
      refine LinL.step (s := (.val (a))) [(0, none)] rfl (by kernel_rfl) (op_out 0 (a) rfl (.inl rfl) rfl) ?_
      refine LinL.step (s := (.val (.int .i64 (k : Nat)))) [(5, none)] rfl (by kernel_rfl) (op_out 5 (.int .i64 (k : Nat)) rfl (.inl rfl) rfl) ?_
      refine LinL.step (s := (Sp.recp 2 TxR TxR.stays d)) [(16, some 1), (17, some 0)] rfl (by kernel_rfl) (op_runs rfl fun σ w' hx hg => rridx (ρ := σ.eval) (w := w') TxR.stays Try.elTx (.tmp 16) (.tmp 17) k rfl hg.1 hg.2.1 (ha1.ext TxR.stays hx) hd.out) ?_
      refine LinL.step (s := (Sp.recv TxR TxR.stays d)) [(18, some 0)] rfl (by kernel_rfl) (op_runs rfl fun σ w' hx hg => rrload (ρ := σ.eval) (w := w') TxR.stays Try.stTx (.tmp 18) rfl hg.1) ?_
      refine LinL.step (s := (.val (b))) [(1, none)] rfl (by kernel_rfl) (op_out 1 (b) rfl (.inl rfl) rfl) ?_
      refine LinL.step (s := (.val (.int .i64 (k : Nat)))) [(5, none)] rfl (by kernel_rfl) (op_out 5 (.int .i64 (k : Nat)) rfl (.inl rfl) rfl) ?_
      refine LinL.step (s := (Sp.recp 2 TxR TxR.stays d2)) [(20, some 1), (21, some 0)] rfl (by kernel_rfl) (op_runs rfl fun σ w' hx hg => rridx (ρ := σ.eval) (w := w') TxR.stays Try.elTx (.tmp 20) (.tmp 21) k rfl hg.1 hg.2.1 (hb1.ext TxR.stays hx) hd2.out) ?_
      refine LinL.step (s := (Sp.recv TxR TxR.stays d2)) [(22, some 0)] rfl (by kernel_rfl) (op_runs rfl fun σ w' hx hg => rrload (ρ := σ.eval) (w := w') TxR.stays Try.stTx (.tmp 22) rfl hg.1) ?_
      refine LinL.step (s := (.val (.bool true))) [(19, some 4), (23, some 0)] rfl (by kernel_rfl) (op_runs rfl fun σ w' hx hg => rtxne (ρ := σ.eval) (w := w') (.tmp 19) (.tmp 23) rfl hg.1 hg.2.1 hc.out) ?_
      intro wN hxN
      simp only [Fin', Sp.recp, Sp.recv, List.reverse_cons, List.reverse_nil, List.nil_append, List.cons_append, List.drop_zero, List.take_succ_cons, List.take_zero]
      intro q18 hq18 q19 hq19 q22 hq22 q23 hq23
      simp only [Act.put, List.setIfInBounds_toArray, List.set_cons_zero, List.set_cons_succ]
      replace hX := hX.trans (hxd.trans hxN)
      go_wp2
      go_ret
      exact Keep.intro ⟨by rw [hno.out]; rfl, hX⟩

def BlkD.same (a b : BlkD) : Bool := a.slot == b.slot && a.miner == b.miner && a.var == b.var && a.parent == b.parent && decide (a.txs = b.txs)
theorem BlkD.same_iff {a b : BlkD} : a.same b = true ↔ a = b := by
  cases a; cases b; simp [BlkD.same, and_assoc]
theorem BlkD.same_self (a : BlkD) : a.same a = true := BlkD.same_iff.2 rfl
theorem Recs.one' {α : Type} {n : Nat} {R : World → List Value → α → Prop} {w : World} {v : Value} {l : List α} (h : Recs n R w v l) : v.oneCell' = true := by
  obtain ⟨_, ⟨A, c, rfl, _⟩, _⟩ := h; rfl
theorem blk_one {a b c d : Int} {v : Value} (h : v.oneCell' = true) : ∀ u ∈ [Value.int .i64 a, .int .i64 b, .int .i64 c, .int .i64 d, v], u.oneCell' = true := by
  intro u hu; simp at hu; rcases hu with rfl | rfl | rfl | rfl | rfl
  · rfl
  · rfl
  · rfl
  · rfl
  · exact h
set_option maxRecDepth 100000 in
set_option maxHeartbeats 1600000 in
theorem BSame_any {w : World} {u u2 : Value} {b b2 : BlkD} (h1 : Recs 2 TxR w u b.txs) (h2 : Recs 2 TxR w u2 b2.txs) : Calls Try.prog 18 #[.agg #[.int .i64 b.slot, .int .i64 b.miner, .int .i64 b.var, .int .i64 b.parent, u], .agg #[.int .i64 b2.slot, .int .i64 b2.miner, .int .i64 b2.var, .int .i64 b2.parent, u2]] w fun e w' => e = .returned (.bool (b.same b2)) ∧ Ext w w' := by
  refine calls_keep ?_
  replace h1 := hide_ h1
  replace h2 := hide_ h2
  cases c0 : (b.slot == b2.slot)
  · have hdec := hide_ (show b.same b2 = false from by simp [BlkD.same, c0])
    go_enter Try.func18, Try.ntmps18
    go_wp2_with ((first
      | ((with_reducible refine at_box ?_); refine w_box (.tmp 0) [.int .i64 b.slot, .int .i64 b.miner, .int .i64 b.var, .int .i64 b.parent, u] rfl rfl rfl rfl ?_; intro g1 w1 hg1 hX f1)
      | ((with_reducible refine at_box ?_); refine w_box (.tmp 1) [.int .i64 b2.slot, .int .i64 b2.miner, .int .i64 b2.var, .int .i64 b2.parent, u2] rfl rfl rfl rfl ?_; intro g2 w2 hg2 hx f2; replace f1 := f1.ext hx; replace hX := hX.trans hx; clear hx)
      | ((with_reducible refine at_field ?_); (try refine w_yes _ _ _ rfl rfl rfl ?_); refine w_field Try.stBlk _ _ _ rfl rfl rfl (by omega) ?_)
      | ((with_reducible refine at_load ?_); (try refine w_yes _ _ _ rfl rfl rfl ?_); refine w_fload _ rfl rfl rfl f1 rfl (agg_of (by kernel_rfl)) ?_)
      | ((with_reducible refine at_load ?_); (try refine w_yes _ _ _ rfl rfl rfl ?_); refine w_fload _ rfl rfl rfl f2 rfl (agg_of (by kernel_rfl)) ?_)
      | fail) <;> (try simp only [Act.put, List.setIfInBounds_toArray, List.set_cons_zero, List.set_cons_succ]))
    go_ret
    exact Keep.intro ⟨by rw [hdec.out]; rfl, hX⟩
  cases c1 : (b.miner == b2.miner)
  · have hdec := hide_ (show b.same b2 = false from by simp [BlkD.same, c1])
    go_enter Try.func18, Try.ntmps18
    go_wp2_with ((first
      | ((with_reducible refine at_box ?_); refine w_box (.tmp 0) [.int .i64 b.slot, .int .i64 b.miner, .int .i64 b.var, .int .i64 b.parent, u] rfl rfl rfl rfl ?_; intro g1 w1 hg1 hX f1)
      | ((with_reducible refine at_box ?_); refine w_box (.tmp 1) [.int .i64 b2.slot, .int .i64 b2.miner, .int .i64 b2.var, .int .i64 b2.parent, u2] rfl rfl rfl rfl ?_; intro g2 w2 hg2 hx f2; replace f1 := f1.ext hx; replace hX := hX.trans hx; clear hx)
      | ((with_reducible refine at_field ?_); (try refine w_yes _ _ _ rfl rfl rfl ?_); refine w_field Try.stBlk _ _ _ rfl rfl rfl (by omega) ?_)
      | ((with_reducible refine at_load ?_); (try refine w_yes _ _ _ rfl rfl rfl ?_); refine w_fload _ rfl rfl rfl f1 rfl (agg_of (by kernel_rfl)) ?_)
      | ((with_reducible refine at_load ?_); (try refine w_yes _ _ _ rfl rfl rfl ?_); refine w_fload _ rfl rfl rfl f2 rfl (agg_of (by kernel_rfl)) ?_)
      | fail) <;> (try simp only [Act.put, List.setIfInBounds_toArray, List.set_cons_zero, List.set_cons_succ]))
    go_ret
    exact Keep.intro ⟨by rw [hdec.out]; rfl, hX⟩
  cases c2 : (b.var == b2.var)
  · have hdec := hide_ (show b.same b2 = false from by simp [BlkD.same, c2])
    go_enter Try.func18, Try.ntmps18
    go_wp2_with ((first
      | ((with_reducible refine at_box ?_); refine w_box (.tmp 0) [.int .i64 b.slot, .int .i64 b.miner, .int .i64 b.var, .int .i64 b.parent, u] rfl rfl rfl rfl ?_; intro g1 w1 hg1 hX f1)
      | ((with_reducible refine at_box ?_); refine w_box (.tmp 1) [.int .i64 b2.slot, .int .i64 b2.miner, .int .i64 b2.var, .int .i64 b2.parent, u2] rfl rfl rfl rfl ?_; intro g2 w2 hg2 hx f2; replace f1 := f1.ext hx; replace hX := hX.trans hx; clear hx)
      | ((with_reducible refine at_field ?_); (try refine w_yes _ _ _ rfl rfl rfl ?_); refine w_field Try.stBlk _ _ _ rfl rfl rfl (by omega) ?_)
      | ((with_reducible refine at_load ?_); (try refine w_yes _ _ _ rfl rfl rfl ?_); refine w_fload _ rfl rfl rfl f1 rfl (agg_of (by kernel_rfl)) ?_)
      | ((with_reducible refine at_load ?_); (try refine w_yes _ _ _ rfl rfl rfl ?_); refine w_fload _ rfl rfl rfl f2 rfl (agg_of (by kernel_rfl)) ?_)
      | fail) <;> (try simp only [Act.put, List.setIfInBounds_toArray, List.set_cons_zero, List.set_cons_succ]))
    go_ret
    exact Keep.intro ⟨by rw [hdec.out]; rfl, hX⟩
  cases c3 : (b.parent == b2.parent)
  · have hdec := hide_ (show b.same b2 = false from by simp [BlkD.same, c3])
    go_enter Try.func18, Try.ntmps18
    go_wp2_with ((first
      | ((with_reducible refine at_box ?_); refine w_box (.tmp 0) [.int .i64 b.slot, .int .i64 b.miner, .int .i64 b.var, .int .i64 b.parent, u] rfl rfl rfl rfl ?_; intro g1 w1 hg1 hX f1)
      | ((with_reducible refine at_box ?_); refine w_box (.tmp 1) [.int .i64 b2.slot, .int .i64 b2.miner, .int .i64 b2.var, .int .i64 b2.parent, u2] rfl rfl rfl rfl ?_; intro g2 w2 hg2 hx f2; replace f1 := f1.ext hx; replace hX := hX.trans hx; clear hx)
      | ((with_reducible refine at_field ?_); (try refine w_yes _ _ _ rfl rfl rfl ?_); refine w_field Try.stBlk _ _ _ rfl rfl rfl (by omega) ?_)
      | ((with_reducible refine at_load ?_); (try refine w_yes _ _ _ rfl rfl rfl ?_); refine w_fload _ rfl rfl rfl f1 rfl (agg_of (by kernel_rfl)) ?_)
      | ((with_reducible refine at_load ?_); (try refine w_yes _ _ _ rfl rfl rfl ?_); refine w_fload _ rfl rfl rfl f2 rfl (agg_of (by kernel_rfl)) ?_)
      | fail) <;> (try simp only [Act.put, List.setIfInBounds_toArray, List.set_cons_zero, List.set_cons_succ]))
    go_ret
    exact Keep.intro ⟨by rw [hdec.out]; rfl, hX⟩
  obtain ⟨q, hq0⟩ : ∃ q, decide (b.txs = b2.txs) = q := ⟨_, rfl⟩
  have hdec := hide_ (show b.same b2 = q from by simp [BlkD.same, c0, c1, c2, c3, hq0])
  have hq := hide_ hq0
  clear hq0
  go_enter Try.func18, Try.ntmps18
  go_wp2_with ((first
    | ((with_reducible refine at_box ?_); refine w_box (.tmp 0) [.int .i64 b.slot, .int .i64 b.miner, .int .i64 b.var, .int .i64 b.parent, u] rfl rfl rfl rfl ?_; intro g1 w1 hg1 hX f1)
    | ((with_reducible refine at_box ?_); refine w_box (.tmp 1) [.int .i64 b2.slot, .int .i64 b2.miner, .int .i64 b2.var, .int .i64 b2.parent, u2] rfl rfl rfl rfl ?_; intro g2 w2 hg2 hx f2; replace f1 := f1.ext hx; replace hX := hX.trans hx; clear hx)
    | (go_at_call 33; refine (SEqual_any (a := u) (b := u2) (h1.out.ext TxR.stays hX) (h2.out.ext TxR.stays hX)).mono ?_; rintro e w3 ⟨rfl, hx⟩; rw [hq.out]; replace hX := hX.trans hx; clear hx)
    | ((with_reducible refine at_field ?_); (try refine w_yes _ _ _ rfl rfl rfl ?_); refine w_field Try.stBlk _ _ _ rfl rfl rfl (by omega) ?_)
    | ((with_reducible refine at_load ?_); (try refine w_yes _ _ _ rfl rfl rfl ?_); refine w_fload _ rfl rfl rfl f1 rfl (agg_of (by kernel_rfl)) ?_)
    | ((with_reducible refine at_load ?_); (try refine w_yes _ _ _ rfl rfl rfl ?_); refine w_fload _ rfl rfl rfl f2 rfl (agg_of (by kernel_rfl)) ?_)
    | fail) <;> (try simp only [Act.put, List.setIfInBounds_toArray, List.set_cons_zero, List.set_cons_succ]))
  go_ret
  exact Keep.intro ⟨by rw [hdec.out]; rfl, hX⟩

set_option maxRecDepth 100000 in
set_option maxHeartbeats 1600000 in
theorem refBSame_any {w : World} {u u2 : Value} {b b2 : BlkD} (h1 : Recs 2 TxR w u b.txs) (h2 : Recs 2 TxR w u2 b2.txs) : Calls Try.prog 19 #[.agg #[.int .i64 b.slot, .int .i64 b.miner, .int .i64 b.var, .int .i64 b.parent, u], .agg #[.int .i64 b2.slot, .int .i64 b2.miner, .int .i64 b2.var, .int .i64 b2.parent, u2]] w fun e w' => e = .returned (.bool (b.same b2)) ∧ Ext w w' := by
  refine calls_keep ?_
  replace h1 := hide_ h1
  replace h2 := hide_ h2
  cases c0 : (b.slot == b2.slot)
  · have hdec := hide_ (show b.same b2 = false from by simp [BlkD.same, c0])
    go_enter Try.func19, Try.ntmps19
    go_wp2_with ((first
      | ((with_reducible refine at_box ?_); refine w_box (.tmp 0) [.int .i64 b.slot, .int .i64 b.miner, .int .i64 b.var, .int .i64 b.parent, u] rfl rfl rfl rfl ?_; intro g1 w1 hg1 hX f1)
      | ((with_reducible refine at_box ?_); refine w_box (.tmp 1) [.int .i64 b2.slot, .int .i64 b2.miner, .int .i64 b2.var, .int .i64 b2.parent, u2] rfl rfl rfl rfl ?_; intro g2 w2 hg2 hx f2; replace f1 := f1.ext hx; replace hX := hX.trans hx; clear hx)
      | ((with_reducible refine at_field ?_); (try refine w_yes _ _ _ rfl rfl rfl ?_); refine w_field Try.stBlk _ _ _ rfl rfl rfl (by omega) ?_)
      | ((with_reducible refine at_load ?_); (try refine w_yes _ _ _ rfl rfl rfl ?_); refine w_fload _ rfl rfl rfl f1 rfl (agg_of (by kernel_rfl)) ?_)
      | ((with_reducible refine at_load ?_); (try refine w_yes _ _ _ rfl rfl rfl ?_); refine w_fload _ rfl rfl rfl f2 rfl (agg_of (by kernel_rfl)) ?_)
      | fail) <;> (try simp only [Act.put, List.setIfInBounds_toArray, List.set_cons_zero, List.set_cons_succ]))
    go_ret
    exact Keep.intro ⟨by rw [hdec.out]; rfl, hX⟩
  cases c1 : (b.miner == b2.miner)
  · have hdec := hide_ (show b.same b2 = false from by simp [BlkD.same, c1])
    go_enter Try.func19, Try.ntmps19
    go_wp2_with ((first
      | ((with_reducible refine at_box ?_); refine w_box (.tmp 0) [.int .i64 b.slot, .int .i64 b.miner, .int .i64 b.var, .int .i64 b.parent, u] rfl rfl rfl rfl ?_; intro g1 w1 hg1 hX f1)
      | ((with_reducible refine at_box ?_); refine w_box (.tmp 1) [.int .i64 b2.slot, .int .i64 b2.miner, .int .i64 b2.var, .int .i64 b2.parent, u2] rfl rfl rfl rfl ?_; intro g2 w2 hg2 hx f2; replace f1 := f1.ext hx; replace hX := hX.trans hx; clear hx)
      | ((with_reducible refine at_field ?_); (try refine w_yes _ _ _ rfl rfl rfl ?_); refine w_field Try.stBlk _ _ _ rfl rfl rfl (by omega) ?_)
      | ((with_reducible refine at_load ?_); (try refine w_yes _ _ _ rfl rfl rfl ?_); refine w_fload _ rfl rfl rfl f1 rfl (agg_of (by kernel_rfl)) ?_)
      | ((with_reducible refine at_load ?_); (try refine w_yes _ _ _ rfl rfl rfl ?_); refine w_fload _ rfl rfl rfl f2 rfl (agg_of (by kernel_rfl)) ?_)
      | fail) <;> (try simp only [Act.put, List.setIfInBounds_toArray, List.set_cons_zero, List.set_cons_succ]))
    go_ret
    exact Keep.intro ⟨by rw [hdec.out]; rfl, hX⟩
  cases c2 : (b.var == b2.var)
  · have hdec := hide_ (show b.same b2 = false from by simp [BlkD.same, c2])
    go_enter Try.func19, Try.ntmps19
    go_wp2_with ((first
      | ((with_reducible refine at_box ?_); refine w_box (.tmp 0) [.int .i64 b.slot, .int .i64 b.miner, .int .i64 b.var, .int .i64 b.parent, u] rfl rfl rfl rfl ?_; intro g1 w1 hg1 hX f1)
      | ((with_reducible refine at_box ?_); refine w_box (.tmp 1) [.int .i64 b2.slot, .int .i64 b2.miner, .int .i64 b2.var, .int .i64 b2.parent, u2] rfl rfl rfl rfl ?_; intro g2 w2 hg2 hx f2; replace f1 := f1.ext hx; replace hX := hX.trans hx; clear hx)
      | ((with_reducible refine at_field ?_); (try refine w_yes _ _ _ rfl rfl rfl ?_); refine w_field Try.stBlk _ _ _ rfl rfl rfl (by omega) ?_)
      | ((with_reducible refine at_load ?_); (try refine w_yes _ _ _ rfl rfl rfl ?_); refine w_fload _ rfl rfl rfl f1 rfl (agg_of (by kernel_rfl)) ?_)
      | ((with_reducible refine at_load ?_); (try refine w_yes _ _ _ rfl rfl rfl ?_); refine w_fload _ rfl rfl rfl f2 rfl (agg_of (by kernel_rfl)) ?_)
      | fail) <;> (try simp only [Act.put, List.setIfInBounds_toArray, List.set_cons_zero, List.set_cons_succ]))
    go_ret
    exact Keep.intro ⟨by rw [hdec.out]; rfl, hX⟩
  cases c3 : (b.parent == b2.parent)
  · have hdec := hide_ (show b.same b2 = false from by simp [BlkD.same, c3])
    go_enter Try.func19, Try.ntmps19
    go_wp2_with ((first
      | ((with_reducible refine at_box ?_); refine w_box (.tmp 0) [.int .i64 b.slot, .int .i64 b.miner, .int .i64 b.var, .int .i64 b.parent, u] rfl rfl rfl rfl ?_; intro g1 w1 hg1 hX f1)
      | ((with_reducible refine at_box ?_); refine w_box (.tmp 1) [.int .i64 b2.slot, .int .i64 b2.miner, .int .i64 b2.var, .int .i64 b2.parent, u2] rfl rfl rfl rfl ?_; intro g2 w2 hg2 hx f2; replace f1 := f1.ext hx; replace hX := hX.trans hx; clear hx)
      | ((with_reducible refine at_field ?_); (try refine w_yes _ _ _ rfl rfl rfl ?_); refine w_field Try.stBlk _ _ _ rfl rfl rfl (by omega) ?_)
      | ((with_reducible refine at_load ?_); (try refine w_yes _ _ _ rfl rfl rfl ?_); refine w_fload _ rfl rfl rfl f1 rfl (agg_of (by kernel_rfl)) ?_)
      | ((with_reducible refine at_load ?_); (try refine w_yes _ _ _ rfl rfl rfl ?_); refine w_fload _ rfl rfl rfl f2 rfl (agg_of (by kernel_rfl)) ?_)
      | fail) <;> (try simp only [Act.put, List.setIfInBounds_toArray, List.set_cons_zero, List.set_cons_succ]))
    go_ret
    exact Keep.intro ⟨by rw [hdec.out]; rfl, hX⟩
  obtain ⟨q, hq0⟩ : ∃ q, decide (b.txs = b2.txs) = q := ⟨_, rfl⟩
  have hdec := hide_ (show b.same b2 = q from by simp [BlkD.same, c0, c1, c2, c3, hq0])
  have hq := hide_ hq0
  clear hq0
  go_enter Try.func19, Try.ntmps19
  go_wp2_with ((first
    | ((with_reducible refine at_box ?_); refine w_box (.tmp 0) [.int .i64 b.slot, .int .i64 b.miner, .int .i64 b.var, .int .i64 b.parent, u] rfl rfl rfl rfl ?_; intro g1 w1 hg1 hX f1)
    | ((with_reducible refine at_box ?_); refine w_box (.tmp 1) [.int .i64 b2.slot, .int .i64 b2.miner, .int .i64 b2.var, .int .i64 b2.parent, u2] rfl rfl rfl rfl ?_; intro g2 w2 hg2 hx f2; replace f1 := f1.ext hx; replace hX := hX.trans hx; clear hx)
    | (go_at_call 34; refine (Same_any (a := u) (b := u2) (h1.out.ext TxR.stays hX) (h2.out.ext TxR.stays hX)).mono ?_; rintro e w3 ⟨rfl, hx⟩; rw [hq.out]; replace hX := hX.trans hx; clear hx)
    | ((with_reducible refine at_field ?_); (try refine w_yes _ _ _ rfl rfl rfl ?_); refine w_field Try.stBlk _ _ _ rfl rfl rfl (by omega) ?_)
    | ((with_reducible refine at_load ?_); (try refine w_yes _ _ _ rfl rfl rfl ?_); refine w_fload _ rfl rfl rfl f1 rfl (agg_of (by kernel_rfl)) ?_)
    | ((with_reducible refine at_load ?_); (try refine w_yes _ _ _ rfl rfl rfl ?_); refine w_fload _ rfl rfl rfl f2 rfl (agg_of (by kernel_rfl)) ?_)
    | fail) <;> (try simp only [Act.put, List.setIfInBounds_toArray, List.set_cons_zero, List.set_cons_succ]))
  go_ret
  exact Keep.intro ⟨by rw [hdec.out]; rfl, hX⟩

theorem BlkD.Right.rdb4 {b : BlkD} (h : b.Right) : Rdb [b.slot, b.miner, b.var, b.parent] := fun x hx => h.rdb x (List.mem_append_left _ hx)
set_option maxRecDepth 100000 in
set_option maxHeartbeats 1600000 in
theorem BBytes_any {w : World} {u : Value} {b : BlkD} (hu0 : Recs 2 TxR w u b.txs) (hp : I64 b.parent) : Calls Try.prog 12 #[.agg #[.int .i64 b.slot, .int .i64 b.miner, .int .i64 b.var, .int .i64 b.parent, u]] w fun e w' => ∃ v', e = .returned (.tuple #[v', .int .i64 (bE b : Nat)]) ∧ OwnB w.heap.size w' v' (bB b) ∧ Ext w w' := by
  refine calls_keep ?_
  have hu := hide_ hu0
  replace hp := hide_ hp
  by_cases h : b.Right
  · have hdec := hide_ (decide_eq_true h)
    have hrd := hide_ h.rdb4
    have hle := hide_ (show tlE b.txs = 0 from if_pos h.t)
    have hlb := hide_ (show tlB b.txs = lsB b.txs from if_pos h.t)
    have e1 := hide_ (show bE b = 0 from if_pos h)
    have e2 := hide_ (show bB b = nuL [b.slot, b.miner, b.var, b.parent] ++ lsB b.txs from (if_pos h).trans b.bytes_eq)
    have hbig := hide_ (show (nuL [b.slot, b.miner, b.var, b.parent]).length + (lsB b.txs).length ≤ 140737488355328 from by
      have := BlkD.bytes_len h
      rw [b.bytes_eq, List.length_append] at this; omega)
    clear h
    go_enter Try.func12, Try.ntmps12
    go_wp2_with ((first
      | ((with_reducible refine at_box ?_); refine w_box _ [.int .i64 b.slot, .int .i64 b.miner, .int .i64 b.var, .int .i64 b.parent, u] rfl rfl rfl rfl ?_; intro g1 w1 hg1 hX f1)
      | (go_at_call 14; refine (BRight_any (b := b) (hu.out.ext TxR.stays hX) hp.out).mono ?_; rintro e w2 ⟨rfl, hx⟩; rw [hdec.out]; replace f1 := f1.ext hx; replace hX := hX.trans hx; clear hx)
      | (go_at_call 27; refine (Nums_yes hrd.out (by simp) o2.ints).mono ?_; rintro e w4 ⟨v3, rfl, o3, hx⟩; replace o3 := o3.mono hX.size; replace f1 := f1.ext hx; replace hX := hX.trans hx; clear o2 hx)
      | (go_at_call 28; refine (TList_any (v := u) (hu.out.ext TxR.stays hX)).mono ?_; rintro e w5 ⟨v8, rfl, o8, hx⟩; rw [hle.out]; rw [hlb.out] at o8; have b8 := o8.byt; replace o3 := o3.ext hx; replace f1 := f1.ext hx; replace hX := hX.trans hx; clear hx o8)
      | ((with_reducible refine at_lit ?_); refine w_new Try.elI (i64s [b.slot, b.miner, b.var, b.parent]) rfl rfl rfl (i64s_cells _) rfl (by omega) ?_; intro v2 w3 hx3 o2; replace o2 : OwnI _ w3 v2 [b.slot, b.miner, b.var, b.parent] := o2; replace f1 := f1.ext hx3; replace hX := hX.trans hx3; clear hx3)
      | ((with_reducible refine at_bi ?_); refine appb _ _ rfl rfl rfl rfl o3 b8 hbig.out hX.size ?_; intro v9 w9 o9 hb9 hg9; replace hX := hX.trans' hb9; replace o3 := o9; clear b8 hb9 hg9 o9)
      | ((with_reducible refine at_field ?_); (try refine w_yes _ _ _ rfl rfl rfl ?_); refine w_field Try.stBlk _ _ _ rfl rfl rfl (by omega) ?_)
      | ((with_reducible refine at_load ?_); (try refine w_yes _ _ _ rfl rfl rfl ?_); refine w_aload Try.stBlk _ rfl rfl rfl f1 rfl ?_)
      | ((with_reducible refine at_load ?_); (try refine w_yes _ _ _ rfl rfl rfl ?_); refine w_fload _ rfl rfl rfl f1 rfl (agg_of (by kernel_rfl)) ?_)
      | fail) <;> (try simp only [Act.put, List.setIfInBounds_toArray, List.set_cons_zero, List.set_cons_succ]))
    go_ret2
    exact Keep.intro ⟨_, by rw [e1.out]; rfl, by rw [e2.out]; exact o3, hX⟩
  · have hdec := hide_ (decide_eq_false h)
    have e1 := hide_ (show bE b = 71 from if_neg h)
    have e2 := hide_ (show bB b = [] from if_neg h)
    clear h
    go_enter Try.func12, Try.ntmps12
    go_wp2_with ((first
      | ((with_reducible refine at_box ?_); refine w_box _ [.int .i64 b.slot, .int .i64 b.miner, .int .i64 b.var, .int .i64 b.parent, u] rfl rfl rfl rfl ?_; intro g1 w1 hg1 hX f1)
      | (go_at_call 14; refine (BRight_any (b := b) (hu.out.ext TxR.stays hX) hp.out).mono ?_; rintro e w2 ⟨rfl, hx⟩; rw [hdec.out]; replace f1 := f1.ext hx; replace hX := hX.trans hx; clear hx)
      | ((with_reducible refine at_load ?_); (try refine w_yes _ _ _ rfl rfl rfl ?_); refine w_aload Try.stBlk _ rfl rfl rfl f1 rfl ?_)
      | fail) <;> (try simp only [Act.put, List.setIfInBounds_toArray, List.set_cons_zero, List.set_cons_succ]))
    go_ret2
    exact Keep.intro ⟨_, by rw [e1.out]; rfl, by rw [e2.out]; exact OwnB.nil _ _, hX⟩

set_option maxRecDepth 100000 in
set_option maxHeartbeats 1600000 in
theorem refBBytes_any {w : World} {u : Value} {b : BlkD} (hu0 : Recs 2 TxR w u b.txs) (hp : I64 b.parent) : Calls Try.prog 13 #[.agg #[.int .i64 b.slot, .int .i64 b.miner, .int .i64 b.var, .int .i64 b.parent, u]] w fun e w' => ∃ v', e = .returned (.tuple #[v', .int .i64 (bE b : Nat)]) ∧ OwnB w.heap.size w' v' (bB b) ∧ Ext w w' := by
  refine calls_keep ?_
  have hu := hide_ hu0
  replace hp := hide_ hp
  by_cases h : b.Right
  · have hdec := hide_ (decide_eq_true h)
    have hrd := hide_ h.rdb4
    have hle := hide_ (show tlE b.txs = 0 from if_pos h.t)
    have hlb := hide_ (show tlB b.txs = lsB b.txs from if_pos h.t)
    have e1 := hide_ (show bE b = 0 from if_pos h)
    have e2 := hide_ (show bB b = nuL [b.slot, b.miner, b.var, b.parent] ++ lsB b.txs from (if_pos h).trans b.bytes_eq)
    have hbig := hide_ (show (nuL [b.slot, b.miner, b.var, b.parent]).length + (lsB b.txs).length ≤ 140737488355328 from by
      have := BlkD.bytes_len h
      rw [b.bytes_eq, List.length_append] at this; omega)
    clear h
    go_enter Try.func13, Try.ntmps13
    go_wp2_with ((first
      | ((with_reducible refine at_box ?_); refine w_box _ [.int .i64 b.slot, .int .i64 b.miner, .int .i64 b.var, .int .i64 b.parent, u] rfl rfl rfl rfl ?_; intro g1 w1 hg1 hX f1)
      | (go_at_call 15; refine (refBRight_any (b := b) (hu.out.ext TxR.stays hX) hp.out).mono ?_; rintro e w2 ⟨rfl, hx⟩; rw [hdec.out]; replace f1 := f1.ext hx; replace hX := hX.trans hx; clear hx)
      | (go_at_call 29; refine (refNums_yes hrd.out (by simp) o2.ints).mono ?_; rintro e w4 ⟨v3, rfl, o3, hx⟩; replace o3 := o3.mono hX.size; replace f1 := f1.ext hx; replace hX := hX.trans hx; clear o2 hx)
      | (go_at_call 30; refine (refTList_any (v := u) (hu.out.ext TxR.stays hX)).mono ?_; rintro e w5 ⟨v8, rfl, o8, hx⟩; rw [hle.out]; rw [hlb.out] at o8; have b8 := o8.byt; replace o3 := o3.ext hx; replace f1 := f1.ext hx; replace hX := hX.trans hx; clear hx o8)
      | ((with_reducible refine at_lit ?_); refine w_new Try.elI (i64s [b.slot, b.miner, b.var, b.parent]) rfl rfl rfl (i64s_cells _) rfl (by omega) ?_; intro v2 w3 hx3 o2; replace o2 : OwnI _ w3 v2 [b.slot, b.miner, b.var, b.parent] := o2; replace f1 := f1.ext hx3; replace hX := hX.trans hx3; clear hx3)
      | ((with_reducible refine at_bi ?_); refine appb _ _ rfl rfl rfl rfl o3 b8 hbig.out hX.size ?_; intro v9 w9 o9 hb9 hg9; replace hX := hX.trans' hb9; replace o3 := o9; clear b8 hb9 hg9 o9)
      | ((with_reducible refine at_field ?_); (try refine w_yes _ _ _ rfl rfl rfl ?_); refine w_field Try.stBlk _ _ _ rfl rfl rfl (by omega) ?_)
      | ((with_reducible refine at_load ?_); (try refine w_yes _ _ _ rfl rfl rfl ?_); refine w_aload Try.stBlk _ rfl rfl rfl f1 rfl ?_)
      | ((with_reducible refine at_load ?_); (try refine w_yes _ _ _ rfl rfl rfl ?_); refine w_fload _ rfl rfl rfl f1 rfl (agg_of (by kernel_rfl)) ?_)
      | fail) <;> (try simp only [Act.put, List.setIfInBounds_toArray, List.set_cons_zero, List.set_cons_succ]))
    go_ret2
    exact Keep.intro ⟨_, by rw [e1.out]; rfl, by rw [e2.out]; exact o3, hX⟩
  · have hdec := hide_ (decide_eq_false h)
    have e1 := hide_ (show bE b = 71 from if_neg h)
    have e2 := hide_ (show bB b = [] from if_neg h)
    clear h
    go_enter Try.func13, Try.ntmps13
    go_wp2_with ((first
      | ((with_reducible refine at_box ?_); refine w_box _ [.int .i64 b.slot, .int .i64 b.miner, .int .i64 b.var, .int .i64 b.parent, u] rfl rfl rfl rfl ?_; intro g1 w1 hg1 hX f1)
      | (go_at_call 15; refine (refBRight_any (b := b) (hu.out.ext TxR.stays hX) hp.out).mono ?_; rintro e w2 ⟨rfl, hx⟩; rw [hdec.out]; replace f1 := f1.ext hx; replace hX := hX.trans hx; clear hx)
      | ((with_reducible refine at_load ?_); (try refine w_yes _ _ _ rfl rfl rfl ?_); refine w_aload Try.stBlk _ rfl rfl rfl f1 rfl ?_)
      | fail) <;> (try simp only [Act.put, List.setIfInBounds_toArray, List.set_cons_zero, List.set_cons_succ]))
    go_ret2
    exact Keep.intro ⟨_, by rw [e1.out]; rfl, by rw [e2.out]; exact OwnB.nil _ _, hX⟩


end Go.Proofs.Ytcjmcnepfnhnlaa
