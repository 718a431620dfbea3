/- The contracts of the document's Read and ReadList (transactions). -/
import Derived.Test.YtabbgnlabiakoaaTx6
import Derived.Test.YtabbgnlabiakoaaRegN
import Derived.Test.YtabbgnlabiakoaaStr
namespace Go.Proofs.Ytabbgnlabiakoaa
open Go.RowKit

theorem refRightR {w : World} (t : TxD) {b : Bool} (h : decide t.Right = b) : Calls Try.prog 15 #[.agg #[.int .i64 t.id, .int .i64 t.fee]] w fun e w' => ∃ v', e = .returned v' ∧ Ext w w' ∧ Sp.p (.val (.bool b)) v' w' := by
  refine (refRight_any t w).mono ?_
  rintro e w' ⟨rfl, hx⟩
  exact ⟨_, rfl, hx, by rw [h]; rfl⟩
theorem rdTx_c1 {b : List Nat} (h : rns 2 b = none) : rdTx b = none := by unfold rdTx; rw [h]
theorem rdTx_c2 {b s : List Nat} {i f : Int} (h : rns 2 b = some ([i, f], s)) (hs : s ≠ []) : rdTx b = none := by
  unfold rdTx; rw [h]
  cases s with
  | nil => exact absurd rfl hs
  | cons x s => rfl
theorem rdTx_c3 {b : List Nat} {i f : Int} (h : rns 2 b = some ([i, f], [])) (hr : ¬ (⟨i, f⟩ : TxD).Right) : rdTx b = none := by unfold rdTx; rw [h]; exact if_neg hr
theorem rdTx_c4 {b : List Nat} {i f : Int} (h : rns 2 b = some ([i, f], [])) (hr : (⟨i, f⟩ : TxD).Right) : rdTx b = some ⟨i, f⟩ := by unfold rdTx; rw [h]; exact if_pos hr

set_option maxRecDepth 100000 in
set_option maxHeartbeats 1600000 in
theorem refTRead_any {w : World} {v : Value} {b : List Nat} (hb : ∀ x ∈ b, x < 256) (hlen : b.length ≤ 140737488355328) (hv : Byt w v b) :
    Calls Try.prog 20 #[v] w fun e w' => e = .returned (.tuple #[.agg #[.int .i64 (tOr (rdTx b)).id, .int .i64 (tOr (rdTx b)).fee], .int .i64 (oE (rdTx b) : Nat)]) ∧ Ext w w' := by
  refine calls_keep ?_
  have No : rdTx b = none → Hid (∀ e w', e = .returned (.tuple #[.agg #[.int .i64 0, .int .i64 0], .int .i64 61]) → Ext w w' → Keep (fun e w' => e = .returned (.tuple #[.agg #[.int .i64 (tOr (rdTx b)).id, .int .i64 (tOr (rdTx b)).fee], .int .i64 (oE (rdTx b) : Nat)]) ∧ Ext w w') e w') := fun h => hide_ (fun e w' he hx => Keep.intro ⟨by rw [he, h]; rfl, hx⟩)
  cases hr : rns 2 b with
  | none =>
    replace No := No (rdTx_c1 hr)
    replace hr := hide_ hr
    go_enter Try.func20, Try.ntmps20
    go_wp2_with ((first
      | (refine w_alloc Try.stTx rfl rfl ?_; intro g2 w1 hg2 hX f2)
      | (go_at_call 28; refine (refRNums_no (m := 2) (by omega) hr.out hb hlen (hv.ext hX)).mono ?_; rintro e w2 ⟨v1, v2, rfl, hx2⟩; replace f2 := f2.ext hx2; replace hX := hX.trans hx2; clear hx2)
      | fail) <;> (try simp only [Act.put, List.setIfInBounds_toArray, List.set_cons_zero, List.set_cons_succ]))
    refine wp_region_phx (by kernel_rfl) ?_; intro wd hxd; replace f2 := f2.ext hxd; replace hX := hX.trans hxd
    refine Ph.rest 0 18 (by kernel_rfl) ?_
    refine LinL.step (s := (.val (.int .i64 11))) [(6, none)] rfl (by kernel_rfl) (op_out 6 (.int .i64 11) rfl (.inl rfl) rfl) ?_
    refine LinL.step (s := (.val (.bool true))) [(13, some 0)] rfl (by kernel_rfl) (op_runs rfl fun σ w' hx hg => ⟨(.bool true), by have h13 : σ.tmps.getD 13 undef = .int .i64 11 := hg.1; unfold Runs execOp; simp [Act.eval, h13, go_sem], rfl⟩) ?_
    refine LinL.step (s := (.val (.bool true))) [(14, some 0)] rfl (by kernel_rfl) (op_copy 14 0 (.val (.bool true)) rfl (.inl rfl) rfl) ?_
    refine LinL.step (s := .val undef) [(5, none), (15, some 0)] rfl (by kernel_rfl) (op_no (reads := [(5, none)]) 2 15 0 false rfl rfl rfl) ?_
    refine LinL.step (s := .val undef) [(16, some 0), (15, some 1)] rfl (by kernel_rfl) (op_no (reads := [(16, some 0)]) 2 15 1 false rfl rfl rfl) ?_
    refine LinL.step (s := .val undef) [(17, some 0), (15, some 2)] rfl (by kernel_rfl) (op_no (reads := [(17, some 0)]) 2 15 2 false rfl rfl rfl) ?_
    refine LinL.step (s := (.val (.bool true))) [(15, some 3), (18, some 0)] rfl (by kernel_rfl) (op_runs rfl fun σ w' hx hg => ⟨_, runs_pick_t (ρ := σ.eval) (w := w') (.tmp 15) (.const (.bool true)) (.tmp 18) rfl hg.1 rfl, rfl⟩) ?_
    refine LinL.step (s := (.val (.bool true))) [(19, some 0)] rfl (by kernel_rfl) (op_copy 19 0 (.val (.bool true)) rfl (.inl rfl) rfl) ?_
    refine LinL.step (s := .val undef) [(4, none), (20, some 0)] rfl (by kernel_rfl) (op_no (reads := [(4, none)]) 7 20 0 false rfl rfl rfl) ?_
    refine LinL.step (s := .val undef) [(21, some 0), (20, some 1)] rfl (by kernel_rfl) (op_no (reads := [(21, some 0)]) 7 20 1 false rfl rfl rfl) ?_
    refine LinL.step (s := .val undef) [(22, some 0), (20, some 2)] rfl (by kernel_rfl) (op_no (reads := [(22, some 0)]) 7 20 2 false rfl rfl rfl) ?_
    refine LinL.step (s := .val undef) [(4, none), (20, some 3)] rfl (by kernel_rfl) (op_no (reads := [(4, none)]) 7 20 3 false rfl rfl rfl) ?_
    refine LinL.step (s := .val undef) [(24, some 0), (20, some 4)] rfl (by kernel_rfl) (op_no (reads := [(24, some 0)]) 7 20 4 false rfl rfl rfl) ?_
    refine LinL.step (s := .val undef) [(25, some 0), (20, some 5)] rfl (by kernel_rfl) (op_no (reads := [(25, some 0)]) 7 20 5 false rfl rfl rfl) ?_
    refine LinL.step (s := .val undef) [(23, some 3), (26, some 0), (20, some 6)] rfl (by kernel_rfl) (op_no (reads := [(23, some 3), (26, some 0)]) 7 20 6 false rfl rfl rfl) ?_
    refine LinL.step (s := .val undef) [(27, some 0), (20, some 7)] rfl (by kernel_rfl) (op_no (reads := [(27, some 0)]) 7 20 7 false rfl rfl rfl) ?_
    refine LinL.step (s := .val undef) [(28, some 0), (20, some 8)] rfl (by kernel_rfl) (op_no (reads := [(28, some 0)]) 7 20 8 false rfl rfl rfl) ?_
    refine LinL.step (s := (.val (.bool true))) [(20, some 9), (29, some 0)] rfl (by kernel_rfl) (op_runs rfl fun σ w' hx hg => ⟨_, runs_pick_t (ρ := σ.eval) (w := w') (.tmp 20) (.const (.bool true)) (.tmp 29) rfl hg.1 rfl, rfl⟩) ?_
    intro wN hxN
    simp only [Fin', List.reverse_cons, List.reverse_nil, List.nil_append, List.cons_append, List.drop_zero, List.take_succ_cons, List.take_zero]
    simp only [Act.put, List.setIfInBounds_toArray, List.set_cons_zero, List.set_cons_succ]
    replace f2 := f2.ext hxN; replace hX := hX.trans hxN; clear hxN
    go_wp2_with ((first
      | (refine w_sbuild Try.stTx [.int .i64 0, .int .i64 0] rfl rfl rfl (by intro p hp; simp at hp) ?_)
      | (refine w_astore Try.stTx (us := [.int .i64 0, .int .i64 0]) _ _ rfl rfl rfl rfl rfl f2 rfl rfl (TxD.one ⟨0, 0⟩) ?_; intro w8 hm8 f8; have hX8 := hm8.after hX (fun i e => e ▸ hg2))
      | fail) <;> (try simp only [Act.put, List.setIfInBounds_toArray, List.set_cons_zero, List.set_cons_succ]))
    exact bodyPost_ret (ret_two Try.stTx rfl rfl rfl f8 rfl) rfl (No.out _ w8 rfl hX8)
  | some p =>
    obtain ⟨xs, s⟩ := p
    obtain ⟨_, hxl, _⟩ := rns_was 2 b xs s hb hr
    obtain ⟨i, f, rfl⟩ : ∃ i f, xs = [i, f] := by
      match xs, hxl with
      | [i, f], _ => exact ⟨i, f, rfl⟩
    clear hxl
    by_cases hs : s = []
    rotate_left
    · have t1 : 0 < s.length := List.length_pos_iff.2 hs
      replace No := No (rdTx_c2 hr hs)
      replace hr := hide_ hr
      clear hs
      go_enter Try.func20, Try.ntmps20
      go_wp2_with ((first
        | (refine w_alloc Try.stTx rfl rfl ?_; intro g2 w1 hg2 hX f2)
        | (go_at_call 28; refine (refRNums_yes (m := 2) (by omega) hr.out hb hlen (hv.ext hX)).mono ?_; rintro e w2 ⟨v1, v2, rfl, i1, b2, hx2⟩; replace f2 := f2.ext hx2; replace hX := hX.trans hx2; clear hx2)
        | fail) <;> (try simp only [Act.put, List.setIfInBounds_toArray, List.set_cons_zero, List.set_cons_succ]))
      refine wp_region_phx (by kernel_rfl) ?_; intro wd hxd; replace f2 := f2.ext hxd; replace hX := hX.trans hxd; replace i1 := i1.ext hxd; replace b2 := b2.ext hxd
      refine Ph.rest 0 18 (by kernel_rfl) ?_
      refine LinL.step (s := (.val (.int .i64 0))) [(6, none)] rfl (by kernel_rfl) (op_out 6 (.int .i64 0) rfl (.inl rfl) rfl) ?_
      refine LinL.step (s := (.val (.bool false))) [(13, some 0)] rfl (by kernel_rfl) (op_runs rfl fun σ w' hx hg => ⟨(.bool false), by have h13 : σ.tmps.getD 13 undef = .int .i64 0 := hg.1; unfold Runs execOp; simp [Act.eval, h13, go_sem], rfl⟩) ?_
      refine LinL.step (s := (.val (.bool false))) [(14, some 0)] rfl (by kernel_rfl) (op_copy 14 0 (.val (.bool false)) rfl (.inl rfl) rfl) ?_
      refine LinL.step (s := (.val (v2))) [(5, none), (15, some 0)] rfl (by kernel_rfl) (op_yes (reads := [(5, none)]) 2 15 0 false rfl rfl rfl (op_out 5 (v2) rfl (.inl rfl) rfl)) ?_
      refine LinL.step (s := (.val (.int .i64 (s.length : Nat)))) [(16, some 0), (15, some 1)] rfl (by kernel_rfl) (op_yes (reads := [(16, some 0)]) 2 15 1 false rfl rfl rfl (op_runs rfl fun σ w' hx hg => ⟨_, runs_lenb (ρ := σ.eval) (w := w') (.tmp 16) rfl hg.1 (b2.ext hx), rfl⟩)) ?_
      refine LinL.step (s := (.val (.bool true))) [(17, some 0), (15, some 2)] rfl (by kernel_rfl) (op_yes (reads := [(17, some 0)]) 2 15 2 false rfl rfl rfl (op_runs rfl fun σ w' hx hg => ⟨(.bool true), by have h17 : σ.tmps.getD 17 undef = .int .i64 (s.length : Nat) := hg.1; unfold Runs execOp; simp [Act.eval, h17, go_sem, t1], rfl⟩)) ?_
      refine LinL.step (s := (.val (.bool true))) [(15, some 3), (18, some 0)] rfl (by kernel_rfl) (op_runs rfl fun σ w' hx hg => ⟨_, runs_pick_f (ρ := σ.eval) (w := w') (.tmp 15) (.const (.bool true)) (.tmp 18) rfl hg.1 hg.2.1, rfl⟩) ?_
      refine LinL.step (s := (.val (.bool true))) [(19, some 0)] rfl (by kernel_rfl) (op_copy 19 0 (.val (.bool true)) rfl (.inl rfl) rfl) ?_
      refine LinL.step (s := .val undef) [(4, none), (20, some 0)] rfl (by kernel_rfl) (op_no (reads := [(4, none)]) 7 20 0 false rfl rfl rfl) ?_
      refine LinL.step (s := .val undef) [(21, some 0), (20, some 1)] rfl (by kernel_rfl) (op_no (reads := [(21, some 0)]) 7 20 1 false rfl rfl rfl) ?_
      refine LinL.step (s := .val undef) [(22, some 0), (20, some 2)] rfl (by kernel_rfl) (op_no (reads := [(22, some 0)]) 7 20 2 false rfl rfl rfl) ?_
      refine LinL.step (s := .val undef) [(4, none), (20, some 3)] rfl (by kernel_rfl) (op_no (reads := [(4, none)]) 7 20 3 false rfl rfl rfl) ?_
      refine LinL.step (s := .val undef) [(24, some 0), (20, some 4)] rfl (by kernel_rfl) (op_no (reads := [(24, some 0)]) 7 20 4 false rfl rfl rfl) ?_
      refine LinL.step (s := .val undef) [(25, some 0), (20, some 5)] rfl (by kernel_rfl) (op_no (reads := [(25, some 0)]) 7 20 5 false rfl rfl rfl) ?_
      refine LinL.step (s := .val undef) [(23, some 3), (26, some 0), (20, some 6)] rfl (by kernel_rfl) (op_no (reads := [(23, some 3), (26, some 0)]) 7 20 6 false rfl rfl rfl) ?_
      refine LinL.step (s := .val undef) [(27, some 0), (20, some 7)] rfl (by kernel_rfl) (op_no (reads := [(27, some 0)]) 7 20 7 false rfl rfl rfl) ?_
      refine LinL.step (s := .val undef) [(28, some 0), (20, some 8)] rfl (by kernel_rfl) (op_no (reads := [(28, some 0)]) 7 20 8 false rfl rfl rfl) ?_
      refine LinL.step (s := (.val (.bool true))) [(20, some 9), (29, some 0)] rfl (by kernel_rfl) (op_runs rfl fun σ w' hx hg => ⟨_, runs_pick_t (ρ := σ.eval) (w := w') (.tmp 20) (.const (.bool true)) (.tmp 29) rfl hg.1 rfl, rfl⟩) ?_
      intro wN hxN
      simp only [Fin', List.reverse_cons, List.reverse_nil, List.nil_append, List.cons_append, List.drop_zero, List.take_succ_cons, List.take_zero]
      simp only [Act.put, List.setIfInBounds_toArray, List.set_cons_zero, List.set_cons_succ]
      replace f2 := f2.ext hxN; replace hX := hX.trans hxN; clear hxN
      go_wp2_with ((first
        | (refine w_sbuild Try.stTx [.int .i64 0, .int .i64 0] rfl rfl rfl (by intro p hp; simp at hp) ?_)
        | (refine w_astore Try.stTx (us := [.int .i64 0, .int .i64 0]) _ _ rfl rfl rfl rfl rfl f2 rfl rfl (TxD.one ⟨0, 0⟩) ?_; intro w8 hm8 f8; have hX8 := hm8.after hX (fun i e => e ▸ hg2))
        | fail) <;> (try simp only [Act.put, List.setIfInBounds_toArray, List.set_cons_zero, List.set_cons_succ]))
      exact bodyPost_ret (ret_two Try.stTx rfl rfl rfl f8 rfl) rfl (No.out _ w8 rfl hX8)
    subst hs
    by_cases hri : (⟨i, f⟩ : TxD).Right
    · have hfin := hide_ (rdTx_c4 hr hri)
      have hdec := hide_ (decide_eq_true hri)
      replace hr := hide_ hr
      clear hri No
      go_enter Try.func20, Try.ntmps20
      go_wp2_with ((first
        | (refine w_alloc Try.stTx rfl rfl ?_; intro g2 w1 hg2 hX f2)
        | (go_at_call 28; refine (refRNums_yes (m := 2) (by omega) hr.out hb hlen (hv.ext hX)).mono ?_; rintro e w2 ⟨v1, v2, rfl, i1, b2, hx2⟩; replace f2 := f2.ext hx2; replace hX := hX.trans hx2; clear hx2)
        | fail) <;> (try simp only [Act.put, List.setIfInBounds_toArray, List.set_cons_zero, List.set_cons_succ]))
      refine wp_region_phx (by kernel_rfl) ?_; intro wd hxd; replace f2 := f2.ext hxd; replace hX := hX.trans hxd; replace i1 := i1.ext hxd; replace b2 := b2.ext hxd
      refine Ph.rest 0 18 (by kernel_rfl) ?_
      refine LinL.step (s := (.val (.int .i64 0))) [(6, none)] rfl (by kernel_rfl) (op_out 6 (.int .i64 0) rfl (.inl rfl) rfl) ?_
      refine LinL.step (s := (.val (.bool false))) [(13, some 0)] rfl (by kernel_rfl) (op_runs rfl fun σ w' hx hg => ⟨(.bool false), by have h13 : σ.tmps.getD 13 undef = .int .i64 0 := hg.1; unfold Runs execOp; simp [Act.eval, h13, go_sem], rfl⟩) ?_
      refine LinL.step (s := (.val (.bool false))) [(14, some 0)] rfl (by kernel_rfl) (op_copy 14 0 (.val (.bool false)) rfl (.inl rfl) rfl) ?_
      refine LinL.step (s := (.val (v2))) [(5, none), (15, some 0)] rfl (by kernel_rfl) (op_yes (reads := [(5, none)]) 2 15 0 false rfl rfl rfl (op_out 5 (v2) rfl (.inl rfl) rfl)) ?_
      refine LinL.step (s := (.val (.int .i64 (([]).length : Nat)))) [(16, some 0), (15, some 1)] rfl (by kernel_rfl) (op_yes (reads := [(16, some 0)]) 2 15 1 false rfl rfl rfl (op_runs rfl fun σ w' hx hg => ⟨_, runs_lenb (ρ := σ.eval) (w := w') (.tmp 16) rfl hg.1 (b2.ext hx), rfl⟩)) ?_
      refine LinL.step (s := (.val (.bool false))) [(17, some 0), (15, some 2)] rfl (by kernel_rfl) (op_yes (reads := [(17, some 0)]) 2 15 2 false rfl rfl rfl (op_runs rfl fun σ w' hx hg => ⟨(.bool false), by have h17 : σ.tmps.getD 17 undef = .int .i64 (([]).length : Nat) := hg.1; unfold Runs execOp; simp [Act.eval, h17, go_sem], rfl⟩)) ?_
      refine LinL.step (s := (.val (.bool false))) [(15, some 3), (18, some 0)] rfl (by kernel_rfl) (op_runs rfl fun σ w' hx hg => ⟨_, runs_pick_f (ρ := σ.eval) (w := w') (.tmp 15) (.const (.bool true)) (.tmp 18) rfl hg.1 hg.2.1, rfl⟩) ?_
      refine LinL.step (s := (.val (.bool false))) [(19, some 0)] rfl (by kernel_rfl) (op_copy 19 0 (.val (.bool false)) rfl (.inl rfl) rfl) ?_
      refine LinL.step (s := (.val (v1))) [(4, none), (20, some 0)] rfl (by kernel_rfl) (op_yes (reads := [(4, none)]) 7 20 0 false rfl rfl rfl (op_out 4 (v1) rfl (.inl rfl) rfl)) ?_
      refine LinL.step (s := (Sp.ptr (.int .i64 (i)))) [(21, some 0), (20, some 1)] rfl (by kernel_rfl) (op_yes (reads := [(21, some 0)]) 7 20 1 false rfl rfl rfl (op_runs rfl fun σ w' hx hg => rptri (ρ := σ.eval) (w := w') (.tmp 21) (.const (.int .i64 0)) rfl hg.1 (i1.ext hx) 0 rfl (by simp) rfl)) ?_
      refine LinL.step (s := (.val (.int .i64 (i : Int)))) [(22, some 0), (20, some 2)] rfl (by kernel_rfl) (op_yes (reads := [(22, some 0)]) 7 20 2 false rfl rfl rfl (op_runs rfl fun σ w' hx hg => ⟨_, runs_load (ρ := σ.eval) (w := w') (.tmp 22) rfl Try.underlying3 rfl hg.1, rfl⟩)) ?_
      refine LinL.step (s := (.val (v1))) [(4, none), (20, some 3)] rfl (by kernel_rfl) (op_yes (reads := [(4, none)]) 7 20 3 false rfl rfl rfl (op_out 4 (v1) rfl (.inl rfl) rfl)) ?_
      refine LinL.step (s := (Sp.ptr (.int .i64 (f)))) [(24, some 0), (20, some 4)] rfl (by kernel_rfl) (op_yes (reads := [(24, some 0)]) 7 20 4 false rfl rfl rfl (op_runs rfl fun σ w' hx hg => rptri (ρ := σ.eval) (w := w') (.tmp 24) (.const (.int .i64 1)) rfl hg.1 (i1.ext hx) 1 rfl (by simp) rfl)) ?_
      refine LinL.step (s := (.val (.int .i64 (f : Int)))) [(25, some 0), (20, some 5)] rfl (by kernel_rfl) (op_yes (reads := [(25, some 0)]) 7 20 5 false rfl rfl rfl (op_runs rfl fun σ w' hx hg => ⟨_, runs_load (ρ := σ.eval) (w := w') (.tmp 25) rfl Try.underlying3 rfl hg.1, rfl⟩)) ?_
      refine LinL.step (s := (.val (.agg #[.int .i64 i, .int .i64 f]))) [(23, some 3), (26, some 0), (20, some 6)] rfl (by kernel_rfl) (op_yes (reads := [(23, some 3), (26, some 0)]) 7 20 6 false rfl rfl rfl (op_runs rfl fun σ w' hx hg => ⟨_, runs_sbuild (ρ := σ.eval) (w := w') Try.stTx [.int .i64 i, .int .i64 f] (ps := #[(0, .tmp 23), (1, .tmp 26)]) rfl (by have h23 : σ.tmps.getD 23 undef = .int .i64 (i : Int) := hg.1; have h26 : σ.tmps.getD 26 undef = .int .i64 (f : Int) := hg.2.1; simp only [List.map_cons, List.map_nil, Act.eval, h23, h26, List.foldl_cons, List.foldl_nil, List.set_cons_zero, List.set_cons_succ]) (by have h23 : σ.tmps.getD 23 undef = .int .i64 (i : Int) := hg.1; have h26 : σ.tmps.getD 26 undef = .int .i64 (f : Int) := hg.2.1; intro p hp; simp at hp; rcases hp with rfl | rfl; exact ⟨by decide, by show (σ.tmps.getD 23 undef).cells = #[σ.tmps.getD 23 undef]; rw [h23]; exact rfl⟩; exact ⟨by decide, by show (σ.tmps.getD 26 undef).cells = #[σ.tmps.getD 26 undef]; rw [h26]; exact rfl⟩), rfl⟩)) ?_
      refine LinL.step (s := (.val (.bool true))) [(27, some 0), (20, some 7)] rfl (by kernel_rfl) (op_yes (reads := [(27, some 0)]) 7 20 7 false rfl rfl rfl (op_calls 15 #[(.tmp 27)] #[23] (fun σ => #[.agg #[.int .i64 i, .int .i64 f]]) rfl rfl (fun _ _ => rfl) fun σ w' hx hg => ⟨by have h27 : σ.tmps.getD 27 undef = .agg #[.int .i64 i, .int .i64 f] := hg.1; simp only [List.map_toArray, List.map_cons, List.map_nil, Act.eval, h27], refRightR ⟨i, f⟩ hdec.out⟩)) ?_
      refine LinL.step (s := (.val (.bool false))) [(28, some 0), (20, some 8)] rfl (by kernel_rfl) (op_yes (reads := [(28, some 0)]) 7 20 8 false rfl rfl rfl (op_runs rfl fun σ w' hx hg => ⟨(.bool false), by have h28 : σ.tmps.getD 28 undef = .bool true := hg.1; unfold Runs execOp; simp [Act.eval, h28, go_sem], rfl⟩)) ?_
      refine LinL.step (s := (.val (.bool false))) [(20, some 9), (29, some 0)] rfl (by kernel_rfl) (op_runs rfl fun σ w' hx hg => ⟨_, runs_pick_f (ρ := σ.eval) (w := w') (.tmp 20) (.const (.bool true)) (.tmp 29) rfl hg.1 hg.2.1, rfl⟩) ?_
      intro wN hxN
      simp only [Fin', Sp.ptr, List.reverse_cons, List.reverse_nil, List.nil_append, List.cons_append, List.drop_zero, List.take_succ_cons, List.take_zero]
      intro q22 hq22 q25 hq25
      simp only [Act.put, List.setIfInBounds_toArray, List.set_cons_zero, List.set_cons_succ]
      replace f2 := f2.ext hxN; replace hX := hX.trans hxN; replace i1 := i1.ext hxN; clear hxN
      go_wp2
      refine wp_region_phx (by kernel_rfl) ?_; intro wd hxd; replace f2 := f2.ext hxd; replace hX := hX.trans hxd; replace i1 := i1.ext hxd
      refine Ph.gate 0 7 (by kernel_rfl) ?_
      refine LinL.step (s := (.val (v1))) [(4, none)] rfl (by kernel_rfl) (op_out 4 (v1) rfl (.inl rfl) rfl) ?_
      refine LinL.step (s := (Sp.ptr (.int .i64 (i)))) [(32, some 0)] rfl (by kernel_rfl) (op_runs rfl fun σ w' hx hg => rptri (ρ := σ.eval) (w := w') (.tmp 32) (.const (.int .i64 0)) rfl hg.1 (i1.ext hx) 0 rfl (by simp) rfl) ?_
      refine LinL.step (s := (.val (.int .i64 (i : Int)))) [(33, some 0)] rfl (by kernel_rfl) (op_runs rfl fun σ w' hx hg => ⟨_, runs_load (ρ := σ.eval) (w := w') (.tmp 33) rfl Try.underlying3 rfl hg.1, rfl⟩) ?_
      refine LinL.step (s := (.val (v1))) [(4, none)] rfl (by kernel_rfl) (op_out 4 (v1) rfl (.inl rfl) rfl) ?_
      refine LinL.step (s := (Sp.ptr (.int .i64 (f)))) [(35, some 0)] rfl (by kernel_rfl) (op_runs rfl fun σ w' hx hg => rptri (ρ := σ.eval) (w := w') (.tmp 35) (.const (.int .i64 1)) rfl hg.1 (i1.ext hx) 1 rfl (by simp) rfl) ?_
      refine LinL.step (s := (.val (.int .i64 (f : Int)))) [(36, some 0)] rfl (by kernel_rfl) (op_runs rfl fun σ w' hx hg => ⟨_, runs_load (ρ := σ.eval) (w := w') (.tmp 36) rfl Try.underlying3 rfl hg.1, rfl⟩) ?_
      refine LinL.step (s := (.val (.agg #[.int .i64 i, .int .i64 f]))) [(34, some 3), (37, some 0)] rfl (by kernel_rfl) (op_runs rfl fun σ w' hx hg => ⟨_, runs_sbuild (ρ := σ.eval) (w := w') Try.stTx [.int .i64 i, .int .i64 f] (ps := #[(0, .tmp 34), (1, .tmp 37)]) rfl (by have h34 : σ.tmps.getD 34 undef = .int .i64 (i : Int) := hg.1; have h37 : σ.tmps.getD 37 undef = .int .i64 (f : Int) := hg.2.1; simp only [List.map_cons, List.map_nil, Act.eval, h34, h37, List.foldl_cons, List.foldl_nil, List.set_cons_zero, List.set_cons_succ]) (by have h34 : σ.tmps.getD 34 undef = .int .i64 (i : Int) := hg.1; have h37 : σ.tmps.getD 37 undef = .int .i64 (f : Int) := hg.2.1; intro p hp; simp at hp; rcases hp with rfl | rfl; exact ⟨by decide, by show (σ.tmps.getD 34 undef).cells = #[σ.tmps.getD 34 undef]; rw [h34]; exact rfl⟩; exact ⟨by decide, by show (σ.tmps.getD 37 undef).cells = #[σ.tmps.getD 37 undef]; rw [h37]; exact rfl⟩), rfl⟩) ?_
      intro wN hxN
      simp only [Fin', Sp.ptr, List.reverse_cons, List.reverse_nil, List.nil_append, List.cons_append, List.drop_zero, List.take_succ_cons, List.take_zero]
      intro q33 hq33 q36 hq36
      simp only [Act.put, List.setIfInBounds_toArray, List.set_cons_zero, List.set_cons_succ]
      replace f2 := f2.ext hxN; replace hX := hX.trans hxN
      refine wpOp_of_list rfl ?_
      refine w_astore Try.stTx (us := [.int .i64 i, .int .i64 f]) _ _ rfl rfl rfl rfl rfl f2 rfl rfl (TxD.one ⟨i, f⟩) ?_; intro w8 hm8 f8; have hX8 := hm8.after hX (fun i e => e ▸ hg2)
      show Ph Try.prog _ _ 8 _ _
      refine Ph.rest 8 1 (by kernel_rfl) ?_
      refine LinL.step (s := (.val (.int .i64 0))) [] rfl (by kernel_rfl) (op_const (.int .i64 0) rfl (.inr rfl)) ?_
      intro wN hxN
      simp only [Fin', List.reverse_cons, List.reverse_nil, List.nil_append, List.drop_zero, List.drop_succ_cons, List.take_succ_cons, List.take_zero]
      simp only [Act.put, List.setIfInBounds_toArray, List.set_cons_zero, List.set_cons_succ]
      replace f8 := f8.ext hxN; replace hX8 := hX8.trans hxN
      go_wp2
      exact bodyPost_ret (ret_two Try.stTx rfl rfl rfl f8 rfl) rfl (Keep.intro ⟨by rw [hfin.out]; rfl, hX8⟩)
    · replace No := No (rdTx_c3 hr hri)
      have hdec := hide_ (decide_eq_false hri)
      replace hr := hide_ hr
      clear hri
      go_enter Try.func20, Try.ntmps20
      go_wp2_with ((first
        | (refine w_alloc Try.stTx rfl rfl ?_; intro g2 w1 hg2 hX f2)
        | (go_at_call 28; refine (refRNums_yes (m := 2) (by omega) hr.out hb hlen (hv.ext hX)).mono ?_; rintro e w2 ⟨v1, v2, rfl, i1, b2, hx2⟩; replace f2 := f2.ext hx2; replace hX := hX.trans hx2; clear hx2)
        | fail) <;> (try simp only [Act.put, List.setIfInBounds_toArray, List.set_cons_zero, List.set_cons_succ]))
      refine wp_region_phx (by kernel_rfl) ?_; intro wd hxd; replace f2 := f2.ext hxd; replace hX := hX.trans hxd; replace i1 := i1.ext hxd; replace b2 := b2.ext hxd
      refine Ph.rest 0 18 (by kernel_rfl) ?_
      refine LinL.step (s := (.val (.int .i64 0))) [(6, none)] rfl (by kernel_rfl) (op_out 6 (.int .i64 0) rfl (.inl rfl) rfl) ?_
      refine LinL.step (s := (.val (.bool false))) [(13, some 0)] rfl (by kernel_rfl) (op_runs rfl fun σ w' hx hg => ⟨(.bool false), by have h13 : σ.tmps.getD 13 undef = .int .i64 0 := hg.1; unfold Runs execOp; simp [Act.eval, h13, go_sem], rfl⟩) ?_
      refine LinL.step (s := (.val (.bool false))) [(14, some 0)] rfl (by kernel_rfl) (op_copy 14 0 (.val (.bool false)) rfl (.inl rfl) rfl) ?_
      refine LinL.step (s := (.val (v2))) [(5, none), (15, some 0)] rfl (by kernel_rfl) (op_yes (reads := [(5, none)]) 2 15 0 false rfl rfl rfl (op_out 5 (v2) rfl (.inl rfl) rfl)) ?_
      refine LinL.step (s := (.val (.int .i64 (([]).length : Nat)))) [(16, some 0), (15, some 1)] rfl (by kernel_rfl) (op_yes (reads := [(16, some 0)]) 2 15 1 false rfl rfl rfl (op_runs rfl fun σ w' hx hg => ⟨_, runs_lenb (ρ := σ.eval) (w := w') (.tmp 16) rfl hg.1 (b2.ext hx), rfl⟩)) ?_
      refine LinL.step (s := (.val (.bool false))) [(17, some 0), (15, some 2)] rfl (by kernel_rfl) (op_yes (reads := [(17, some 0)]) 2 15 2 false rfl rfl rfl (op_runs rfl fun σ w' hx hg => ⟨(.bool false), by have h17 : σ.tmps.getD 17 undef = .int .i64 (([]).length : Nat) := hg.1; unfold Runs execOp; simp [Act.eval, h17, go_sem], rfl⟩)) ?_
      refine LinL.step (s := (.val (.bool false))) [(15, some 3), (18, some 0)] rfl (by kernel_rfl) (op_runs rfl fun σ w' hx hg => ⟨_, runs_pick_f (ρ := σ.eval) (w := w') (.tmp 15) (.const (.bool true)) (.tmp 18) rfl hg.1 hg.2.1, rfl⟩) ?_
      refine LinL.step (s := (.val (.bool false))) [(19, some 0)] rfl (by kernel_rfl) (op_copy 19 0 (.val (.bool false)) rfl (.inl rfl) rfl) ?_
      refine LinL.step (s := (.val (v1))) [(4, none), (20, some 0)] rfl (by kernel_rfl) (op_yes (reads := [(4, none)]) 7 20 0 false rfl rfl rfl (op_out 4 (v1) rfl (.inl rfl) rfl)) ?_
      refine LinL.step (s := (Sp.ptr (.int .i64 (i)))) [(21, some 0), (20, some 1)] rfl (by kernel_rfl) (op_yes (reads := [(21, some 0)]) 7 20 1 false rfl rfl rfl (op_runs rfl fun σ w' hx hg => rptri (ρ := σ.eval) (w := w') (.tmp 21) (.const (.int .i64 0)) rfl hg.1 (i1.ext hx) 0 rfl (by simp) rfl)) ?_
      refine LinL.step (s := (.val (.int .i64 (i : Int)))) [(22, some 0), (20, some 2)] rfl (by kernel_rfl) (op_yes (reads := [(22, some 0)]) 7 20 2 false rfl rfl rfl (op_runs rfl fun σ w' hx hg => ⟨_, runs_load (ρ := σ.eval) (w := w') (.tmp 22) rfl Try.underlying3 rfl hg.1, rfl⟩)) ?_
      refine LinL.step (s := (.val (v1))) [(4, none), (20, some 3)] rfl (by kernel_rfl) (op_yes (reads := [(4, none)]) 7 20 3 false rfl rfl rfl (op_out 4 (v1) rfl (.inl rfl) rfl)) ?_
      refine LinL.step (s := (Sp.ptr (.int .i64 (f)))) [(24, some 0), (20, some 4)] rfl (by kernel_rfl) (op_yes (reads := [(24, some 0)]) 7 20 4 false rfl rfl rfl (op_runs rfl fun σ w' hx hg => rptri (ρ := σ.eval) (w := w') (.tmp 24) (.const (.int .i64 1)) rfl hg.1 (i1.ext hx) 1 rfl (by simp) rfl)) ?_
      refine LinL.step (s := (.val (.int .i64 (f : Int)))) [(25, some 0), (20, some 5)] rfl (by kernel_rfl) (op_yes (reads := [(25, some 0)]) 7 20 5 false rfl rfl rfl (op_runs rfl fun σ w' hx hg => ⟨_, runs_load (ρ := σ.eval) (w := w') (.tmp 25) rfl Try.underlying3 rfl hg.1, rfl⟩)) ?_
      refine LinL.step (s := (.val (.agg #[.int .i64 i, .int .i64 f]))) [(23, some 3), (26, some 0), (20, some 6)] rfl (by kernel_rfl) (op_yes (reads := [(23, some 3), (26, some 0)]) 7 20 6 false rfl rfl rfl (op_runs rfl fun σ w' hx hg => ⟨_, runs_sbuild (ρ := σ.eval) (w := w') Try.stTx [.int .i64 i, .int .i64 f] (ps := #[(0, .tmp 23), (1, .tmp 26)]) rfl (by have h23 : σ.tmps.getD 23 undef = .int .i64 (i : Int) := hg.1; have h26 : σ.tmps.getD 26 undef = .int .i64 (f : Int) := hg.2.1; simp only [List.map_cons, List.map_nil, Act.eval, h23, h26, List.foldl_cons, List.foldl_nil, List.set_cons_zero, List.set_cons_succ]) (by have h23 : σ.tmps.getD 23 undef = .int .i64 (i : Int) := hg.1; have h26 : σ.tmps.getD 26 undef = .int .i64 (f : Int) := hg.2.1; intro p hp; simp at hp; rcases hp with rfl | rfl; exact ⟨by decide, by show (σ.tmps.getD 23 undef).cells = #[σ.tmps.getD 23 undef]; rw [h23]; exact rfl⟩; exact ⟨by decide, by show (σ.tmps.getD 26 undef).cells = #[σ.tmps.getD 26 undef]; rw [h26]; exact rfl⟩), rfl⟩)) ?_
      refine LinL.step (s := (.val (.bool false))) [(27, some 0), (20, some 7)] rfl (by kernel_rfl) (op_yes (reads := [(27, some 0)]) 7 20 7 false rfl rfl rfl (op_calls 15 #[(.tmp 27)] #[23] (fun σ => #[.agg #[.int .i64 i, .int .i64 f]]) rfl rfl (fun _ _ => rfl) fun σ w' hx hg => ⟨by have h27 : σ.tmps.getD 27 undef = .agg #[.int .i64 i, .int .i64 f] := hg.1; simp only [List.map_toArray, List.map_cons, List.map_nil, Act.eval, h27], refRightR ⟨i, f⟩ hdec.out⟩)) ?_
      refine LinL.step (s := (.val (.bool true))) [(28, some 0), (20, some 8)] rfl (by kernel_rfl) (op_yes (reads := [(28, some 0)]) 7 20 8 false rfl rfl rfl (op_runs rfl fun σ w' hx hg => ⟨(.bool true), by have h28 : σ.tmps.getD 28 undef = .bool false := hg.1; unfold Runs execOp; simp [Act.eval, h28, go_sem], rfl⟩)) ?_
      refine LinL.step (s := (.val (.bool true))) [(20, some 9), (29, some 0)] rfl (by kernel_rfl) (op_runs rfl fun σ w' hx hg => ⟨_, runs_pick_f (ρ := σ.eval) (w := w') (.tmp 20) (.const (.bool true)) (.tmp 29) rfl hg.1 hg.2.1, rfl⟩) ?_
      intro wN hxN
      simp only [Fin', Sp.ptr, List.reverse_cons, List.reverse_nil, List.nil_append, List.cons_append, List.drop_zero, List.take_succ_cons, List.take_zero]
      intro q22 hq22 q25 hq25
      simp only [Act.put, List.setIfInBounds_toArray, List.set_cons_zero, List.set_cons_succ]
      replace f2 := f2.ext hxN; replace hX := hX.trans hxN; clear hxN
      go_wp2_with ((first
        | (refine w_sbuild Try.stTx [.int .i64 0, .int .i64 0] rfl rfl rfl (by intro p hp; simp at hp) ?_)
        | (refine w_astore Try.stTx (us := [.int .i64 0, .int .i64 0]) _ _ rfl rfl rfl rfl rfl f2 rfl rfl (TxD.one ⟨0, 0⟩) ?_; intro w8 hm8 f8; have hX8 := hm8.after hX (fun i e => e ▸ hg2))
        | fail) <;> (try simp only [Act.put, List.setIfInBounds_toArray, List.set_cons_zero, List.set_cons_succ]))
      exact bodyPost_ret (ret_two Try.stTx rfl rfl rfl f8 rfl) rfl (No.out _ w8 rfl hX8)

/-! ### The list of bytes: every length is tried -/
theorem isLs_rns {b : List Nat} {l : List TxD} (h : IsLs b l) : rns (1 + 2 * l.length) b = some (lsNums l, []) := by
  rw [h.2]; exact rns_ls h.1
theorem ls_next {b : List Nat} {n : Nat} (hn : ∀ l, IsLs b l → n ≤ l.length) (h : ∀ l, IsLs b l → l.length ≠ n) : ∀ l, IsLs b l → n + 1 ≤ l.length := fun l hl => by
  have := hn l hl
  have := h l hl
  omega
theorem rdLs_none {b : List Nat} (hb : ∀ x ∈ b, x < 256) (h : ∀ l, ¬ IsLs b l) : rdLs b = none := by
  cases hr : rdLs b with
  | none => rfl
  | some l => exact absurd ((rdLs_iff hb l).1 hr) (h l)
/-- What is read of all of b, as a list of transactions, is the list, if one of this length has these bytes. -/
theorem ls_pairs {b : List Nat} {n : Nat} {xs : List Int} (hr : rns (1 + 2 * n) b = some (xs, [])) {l : List TxD} (h : IsLs b l) (hl : l.length = n) : pairs xs.tail = l := by
  have := isLs_rns h
  rw [hl, hr] at this
  cases this
  exact pairs_txNums l

set_option maxRecDepth 100000 in
set_option maxHeartbeats 3200000 in
theorem refTReadList_any {W : World} {v : Value} {b : List Nat} (hb : ∀ x ∈ b, x < 256) (hlen : b.length ≤ 140737488355328) (hv : Byt W v b) :
    Calls Try.prog 22 #[v] W fun e w' => ∃ v', e = .returned (.tuple #[v', .int .i64 (oE (rdLs b) : Nat)]) ∧ Ext W w' ∧ Recs 2 TxR w' v' ((rdLs b).getD []) := by
  refine calls_keep ?_
  go_enter Try.func22, Try.ntmps22
  go_wp2
  go_loopw [4] (fun i wr => ∃ n : Nat, i = .int .i64 n ∧ n ≤ 4 ∧ Hid (∀ l, IsLs b l → n ≤ l.length) ∧ Ext W wr) (fun i _ => 4 - (intOf i).toNat)
  case atStart => exact ⟨0, rfl, Nat.zero_le _, hide_ (fun l _ => Nat.zero_le _), Ext.refl _⟩
  case round =>
    obtain ⟨n, rfl, hn4, hno, hX⟩ := hrel
    by_cases hge : 4 ≤ n
    · have t1 : decide ((n : Int) ≤ (3 : Int)) = false := by simp; omega
      have hnone := hide_ (rdLs_none hb fun l hl => by have := hno.out l hl; have := hl.1.len; omega)
      clear hge hno
      go_wp2
      go_ret2
      exact Keep.intro ⟨.slice none 0 0, by rw [hnone.out]; rfl, hX, by rw [hnone.out]; exact (OwnT.nil 0 _).recs⟩
    have hn3 : n ≤ 3 := by omega
    have t1 : decide ((n : Int) ≤ (3 : Int)) = true := by simp; omega
    have c1 : IntKind.i64.wrap (2 * (n : Int)) = ((2 * n : Nat) : Int) := by rw [IntWalk.i64_in _ (by omega)]; omega
    have c2 : IntKind.i64.wrap (1 + ((2 * n : Nat) : Int)) = ((1 + 2 * n : Nat) : Int) := by rw [IntWalk.i64_in _ (by omega)]; omega
    have hm64 : 1 + 2 * n ≤ 64 := by omega
    clear hge
    cases hr : rns (1 + 2 * n) b with
    | none =>
      have hno2 := hide_ (ls_next hno.out fun l hl hln => by have := isLs_rns hl; rw [hln, hr] at this; cases this)
      replace hr := hide_ hr
      clear hno
      go_wp2_with (first
        | (go_at_call 28; refine (refRNums_no hm64 hr.out hb hlen (hv.ext hX)).mono ?_; rintro e w2 ⟨v1, v2, rfl, hx2⟩; replace hX := hX.trans hx2; clear hx2)
        | fail)
      go_roundw
      case rel => exact ⟨n + 1, by go_num, by omega, hno2, hX⟩
      case measure => simp [intOf]; omega
    | some p =>
      obtain ⟨xs, s⟩ := p
      by_cases hs : s = []
      rotate_left
      · have t2 : decide (0 < s.length) = true := by
          have : 0 < s.length := List.length_pos_iff.2 hs
          exact decide_eq_true this
        have hno2 := hide_ (ls_next hno.out fun l hl hln => by have := isLs_rns hl; rw [hln, hr] at this; cases this; exact hs rfl)
        replace hr := hide_ hr
        clear hno hs
        go_wp2_with ((first
          | (go_at_call 28; refine (refRNums_yes hm64 hr.out hb hlen (hv.ext hX)).mono ?_; rintro e w2 ⟨v1, v2, rfl, i1, b2, hx2⟩; replace hX := hX.trans hx2; clear hx2)
          | ((try refine w_yes _ _ _ rfl rfl rfl ?_); refine b_len _ rfl rfl (v := v2) rfl b2 ?_)
          | fail) <;> (try simp only [Act.put, List.setIfInBounds_toArray, List.set_cons_zero, List.set_cons_succ]))
        go_roundw
        case rel => exact ⟨n + 1, by go_num, by omega, hno2, hX⟩
        case measure => simp [intOf]; omega
      subst hs
      have hz := hide_ (show (([] : List Nat).length : Int) = 0 from rfl)
      obtain ⟨hbx, hxl, hxi⟩ := rns_was (1 + 2 * n) b xs [] hb hr
      obtain ⟨x, ys, rfl⟩ : ∃ x ys, xs = x :: ys := by
        cases xs with
        | nil => simp at hxl; omega
        | cons x ys => exact ⟨x, ys, rfl⟩
      have hyl : ys.length = 2 * n := by simp at hxl; omega
      obtain ⟨htx, hpl⟩ := txNums_pairs n ys hyl
      have hpg := hide_ (fun k d => pairs_get n ys k d hyl)
      have hyi := hide_ (show ∀ y ∈ ys, -1 ≤ y ∧ y ≤ 4611686018427387904 from fun y hy => hxi y (List.mem_cons_of_mem _ hy))
      have hlp := hide_ (show ∀ l, IsLs b l → l.length = n → pairs ys = l from fun l h hl => ls_pairs hr h hl)
      replace hr := hide_ hr
      have hbx' := hide_ hbx
      have hxl' := hide_ hxl
      clear hbx hxl hxi hyl htx
      go_wp2_with ((first
        | (go_at_call 28; refine (refRNums_yes hm64 hr.out hb hlen (hv.ext hX)).mono ?_; rintro e w2 ⟨v1, v2, rfl, i1, b2, hx2⟩; replace hX := hX.trans hx2; clear hx2)
        | ((try refine w_yes _ _ _ rfl rfl rfl ?_); refine b_len _ rfl rfl (v := v2) rfl b2 ?_; rw [hz.out])
        | (refine w_nnew Try.elTxN [] rfl rfl rfl (by simp) rfl (by omega) ?_; intro v0 w3 B hB1 hB2 hx3 hn0; have hO : OwnT w2.heap.size w3 v0 [] := OwnT.of (l := []) hn0 (by simp) (fun k h => by omega); clear hn0 hB1 hB2 b2)
        | fail) <;> (try simp only [Act.put, List.setIfInBounds_toArray, List.set_cons_zero, List.set_cons_succ]))
      have hX2 := hX
      clear hX
      go_loopw [8, 9] (fun vo i wr => ∃ k : Nat, i = .int .i64 k ∧ k ≤ n ∧ OwnT w2.heap.size wr vo ((pairs ys).take k) ∧ Ext w2 wr) (fun _ i _ => n - (intOf i).toNat)
      case atStart => exact ⟨0, rfl, Nat.zero_le _, hO, hx3⟩
      case round =>
        clear hO hx3
        obtain ⟨k, rfl, hk, hO, hX⟩ := hrel
        by_cases hkn : k < n
        · have t3 : decide (k < n) = true := by simpa using hkn
          obtain ⟨d, hd⟩ : ∃ d, (pairs ys)[k]? = some d := ⟨_, List.getElem?_eq_getElem (by omega)⟩
          obtain ⟨hx0, hx1'⟩ := hpg.out k d hd
          have e0 := hide_ (show ∃ h : 1 + 2 * k < (x :: ys).length, (x :: ys)[1 + 2 * k] = d.id from List.getElem?_eq_some_iff.1 (by rw [Nat.add_comm, List.getElem?_cons_succ]; exact hx0))
          have e1 := hide_ (show ∃ h : 2 + 2 * k < (x :: ys).length, (x :: ys)[2 + 2 * k] = d.fee from List.getElem?_eq_some_iff.1 (by rw [show 2 + 2 * k = 2 * k + 1 + 1 from by omega, List.getElem?_cons_succ]; exact hx1'))
          have hdraw := hide_ (show d.Raw from by
            have h0 := hyi.out d.id (List.mem_of_getElem? hx0)
            have h1 := hyi.out d.fee (List.mem_of_getElem? hx1')
            exact ⟨by omega, by omega⟩)
          have htk := hide_ (show (pairs ys).take k ++ [d] = (pairs ys).take (k + 1) from by rw [List.take_add_one, hd]; rfl)
          have hbig := hide_ (show (((pairs ys).take k |>.map TxD.row).length + [d.row].length) * 16 ≤ 140737488355328 from by simp; omega)
          clear hx0 hx1' hd
          go_wp2
          refine wp_region_phx (by kernel_rfl) ?_; intro wd hxd; have j1 := (i1.ext hX).ext hxd; replace hO := hO.ext hxd; replace hX := hX.trans hxd
          refine Ph.gate 0 15 (by kernel_rfl) ?_
          refine LinL.step (s := (.val (u8))) [(8, none)] rfl (by kernel_rfl) (op_out 8 (u8) rfl (.inl rfl) rfl) ?_
          refine LinL.step (s := (.val (v1))) [(5, none)] rfl (by kernel_rfl) (op_out 5 (v1) rfl (.inl rfl) rfl) ?_
          refine LinL.step (s := (.val (.int .i64 (k : Nat)))) [(9, none)] rfl (by kernel_rfl) (op_out 9 (.int .i64 (k : Nat)) rfl (.inl rfl) rfl) ?_
          refine LinL.step (s := (.val (.int .i64 ((2 * k : Nat) : Int)))) [(40, some 0)] rfl (by kernel_rfl) (op_runs rfl fun σ w' hx hg => ⟨_, runs_mul (ρ := σ.eval) (w := w') (.const (.int .i64 2)) (.tmp 40) (((2 * k : Nat) : Int)) (by omega) (by omega) rfl rfl hg.1, rfl⟩) ?_
          refine LinL.step (s := (.val (.int .i64 ((1 + 2 * k : Nat) : Int)))) [(41, some 0)] rfl (by kernel_rfl) (op_runs rfl fun σ w' hx hg => ⟨_, runs_add (ρ := σ.eval) (w := w') (.const (.int .i64 1)) (.tmp 41) (((1 + 2 * k : Nat) : Int)) (by omega) (by omega) rfl rfl hg.1, rfl⟩) ?_
          refine LinL.step (s := (Sp.ptr (.int .i64 (d.id)))) [(39, some 3), (42, some 0)] rfl (by kernel_rfl) (op_runs rfl fun σ w' hx hg => rptri (ρ := σ.eval) (w := w') (.tmp 39) (.tmp 42) rfl hg.1 (j1.ext hx) ((1 + 2 * k)) hg.2.1 e0.out.choose e0.out.choose_spec) ?_
          refine LinL.step (s := (.val (.int .i64 (d.id : Int)))) [(43, some 0)] rfl (by kernel_rfl) (op_runs rfl fun σ w' hx hg => ⟨_, runs_load (ρ := σ.eval) (w := w') (.tmp 43) rfl Try.underlying3 rfl hg.1, rfl⟩) ?_
          refine LinL.step (s := (.val (v1))) [(5, none)] rfl (by kernel_rfl) (op_out 5 (v1) rfl (.inl rfl) rfl) ?_
          refine LinL.step (s := (.val (.int .i64 (k : Nat)))) [(9, none)] rfl (by kernel_rfl) (op_out 9 (.int .i64 (k : Nat)) rfl (.inl rfl) rfl) ?_
          refine LinL.step (s := (.val (.int .i64 ((2 * k : Nat) : Int)))) [(46, some 0)] rfl (by kernel_rfl) (op_runs rfl fun σ w' hx hg => ⟨_, runs_mul (ρ := σ.eval) (w := w') (.const (.int .i64 2)) (.tmp 46) (((2 * k : Nat) : Int)) (by omega) (by omega) rfl rfl hg.1, rfl⟩) ?_
          refine LinL.step (s := (.val (.int .i64 ((2 + 2 * k : Nat) : Int)))) [(47, some 0)] rfl (by kernel_rfl) (op_runs rfl fun σ w' hx hg => ⟨_, runs_add (ρ := σ.eval) (w := w') (.const (.int .i64 2)) (.tmp 47) (((2 + 2 * k : Nat) : Int)) (by omega) (by omega) rfl rfl hg.1, rfl⟩) ?_
          refine LinL.step (s := (Sp.ptr (.int .i64 (d.fee)))) [(45, some 3), (48, some 0)] rfl (by kernel_rfl) (op_runs rfl fun σ w' hx hg => rptri (ρ := σ.eval) (w := w') (.tmp 45) (.tmp 48) rfl hg.1 (j1.ext hx) ((2 + 2 * k)) hg.2.1 e1.out.choose e1.out.choose_spec) ?_
          refine LinL.step (s := (.val (.int .i64 (d.fee : Int)))) [(49, some 0)] rfl (by kernel_rfl) (op_runs rfl fun σ w' hx hg => ⟨_, runs_load (ρ := σ.eval) (w := w') (.tmp 49) rfl Try.underlying3 rfl hg.1, rfl⟩) ?_
          refine LinL.step (s := (.val (.agg #[.int .i64 d.id, .int .i64 d.fee]))) [(44, some 6), (50, some 0)] rfl (by kernel_rfl) (op_runs rfl fun σ w' hx hg => ⟨_, runs_sbuild (ρ := σ.eval) (w := w') Try.stTx [.int .i64 d.id, .int .i64 d.fee] (ps := #[(0, .tmp 44), (1, .tmp 50)]) rfl (by have h44 : σ.tmps.getD 44 undef = .int .i64 (d.id : Int) := hg.1; have h50 : σ.tmps.getD 50 undef = .int .i64 (d.fee : Int) := hg.2.1; simp only [List.map_cons, List.map_nil, Act.eval, h44, h50, List.foldl_cons, List.foldl_nil, List.set_cons_zero, List.set_cons_succ]) (by have h44 : σ.tmps.getD 44 undef = .int .i64 (d.id : Int) := hg.1; have h50 : σ.tmps.getD 50 undef = .int .i64 (d.fee : Int) := hg.2.1; intro p hp; simp at hp; rcases hp with rfl | rfl; exact ⟨by decide, by show (σ.tmps.getD 44 undef).cells = #[σ.tmps.getD 44 undef]; rw [h44]; exact rfl⟩; exact ⟨by decide, by show (σ.tmps.getD 50 undef).cells = #[σ.tmps.getD 50 undef]; rw [h50]; exact rfl⟩), rfl⟩) ?_
          refine LinL.step (s := (Sp.sls 2 [d.row])) [(51, some 0)] rfl (by kernel_rfl) (op_nbuild Try.elTxN [d.row] 1 #[(0, .tmp 51)] rfl rfl rfl (by omega) (by simp [TxD.row]) fun σ w' hx hg => by have h51 : σ.tmps.getD 51 undef = .agg #[.int .i64 d.id, .int .i64 d.fee] := hg.1; simp only [List.map_cons, List.map_nil, Act.eval, h51]; rfl) ?_
          intro wN hxN
          simp only [Fin', Sp.ptr, Sp.sls, List.reverse_cons, List.reverse_nil, List.nil_append, List.cons_append, List.drop_zero, List.take_succ_cons, List.take_zero]
          intro q43 hq43 q49 hq49 q52 hq52
          simp only [Act.put, List.setIfInBounds_toArray, List.set_cons_zero, List.set_cons_succ]
          replace hO := hO.ext hxN; replace hX := hX.trans hxN; clear hxN
          refine wpOp_of_list rfl ?_
          refine w_napp Try.elTxN _ _ rfl rfl rfl rfl hO.own hq52 (by simp) (by intro y hy; simp at hy; subst hy; exact d.one) hbig.out ?_; intro v9 w7 hm7 hn7
          have hO2 := hO.app hX.size hdraw.out hn7; replace hX := hm7.after hX hO.new; replace hO := hO2; rw [htk.out] at hO; clear hO2 hm7 hn7 j1
          show Ph Try.prog _ _ 16 _ _
          refine Ph.rest 16 1 (by kernel_rfl) ?_
          refine LinL.step (s := (.val (v9))) [(53, none)] rfl (by kernel_rfl) (op_out 53 (v9) rfl (.inr rfl) rfl) ?_
          intro wN hxN
          simp only [Fin', List.reverse_cons, List.reverse_nil, List.nil_append, List.drop_zero, List.drop_succ_cons, List.take_succ_cons, List.take_zero]
          simp only [Act.put, List.setIfInBounds_toArray]
          replace hO := hO.ext hxN; replace hX := hX.trans hxN; clear hxN hxd
          go_wp2
          go_roundw
          case rel => exact ⟨k + 1, by go_num, by omega, hO, hX⟩
          case measure => simp [intOf]; omega
        · obtain rfl : k = n := by omega
          have t3 : decide (k < k) = false := by simp
          have he : (pairs ys).take k = pairs ys := List.take_of_length_le (by omega)
          rw [he] at hO
          clear he hkn
          by_cases hok : LsOk (pairs ys)
          rotate_left
          · have E1 := hide_ (show tlE (pairs ys) = 61 from if_neg hok)
            have E2 := hide_ (show tlB (pairs ys) = [] from if_neg hok)
            have hno2 := hide_ (ls_next hno.out fun l hl hln => hok (by rw [hlp.out l hl hln]; exact hl.1))
            clear hno hok
            go_wp2_with (first
              | (go_at_call 19; refine (refTList_any hO.recs).mono ?_; rintro e w5 ⟨v5, rfl, o5, hx5⟩; rw [E1.out]; rw [E2.out] at o5; have b5 := o5.byt; replace hO := hO.ext hx5; replace hX := hX.trans hx5; clear o5 hx5)
              | fail)
            go_roundw
            case rel => exact ⟨k + 1, by go_num, by omega, hno2, hX2.trans hX⟩
            case measure => simp [intOf]; omega
          have E1 := hide_ (show tlE (pairs ys) = 0 from if_pos hok)
          have E2 := hide_ (show tlB (pairs ys) = lsB (pairs ys) from if_pos hok)
          by_cases heq : lsB (pairs ys) = b
          · have hfin := hide_ ((rdLs_iff hb (pairs ys)).2 ⟨hok, heq.symm⟩)
            have hst : strN (lsB (pairs ys)) = strN b := by rw [heq]
            clear hno hok heq
            go_wp2_with ((first
              | (go_at_call 19; refine (refTList_any hO.recs).mono ?_; rintro e w5 ⟨v5, rfl, o5, hx5⟩; rw [E1.out]; rw [E2.out] at o5; have b5 := o5.byt; replace hO := hO.ext hx5; replace hX := hX.trans hx5; clear o5 hx5)
              | ((try refine w_yes _ _ _ rfl rfl rfl ?_); refine w_str _ rfl rfl (v := v5) rfl b5 ?_)
              | ((try refine w_yes _ _ _ rfl rfl rfl ?_); refine w_str _ rfl rfl (v := v) rfl (hv.ext (hX2.trans hX)) ?_)
              | fail) <;> (try simp only [Act.put, List.setIfInBounds_toArray, List.set_cons_zero, List.set_cons_succ]))
            go_ret2
            exact Keep.intro ⟨_, by rw [hfin.out]; rfl, hX2.trans hX, by rw [hfin.out]; exact hO.recs⟩
          · have hst : ((strN (lsB (pairs ys))).toList == (strN b).toList) = false := by rw [beq_eq_false_iff_ne]; exact strN_ne' (nuL_lt (lsNums (pairs ys))) hb heq
            have hno2 := hide_ (ls_next hno.out fun l hl hln => heq (by rw [hlp.out l hl hln]; exact hl.2.symm))
            clear hno hok heq
            go_wp2_with ((first
              | (go_at_call 19; refine (refTList_any hO.recs).mono ?_; rintro e w5 ⟨v5, rfl, o5, hx5⟩; rw [E1.out]; rw [E2.out] at o5; have b5 := o5.byt; replace hO := hO.ext hx5; replace hX := hX.trans hx5; clear o5 hx5)
              | ((try refine w_yes _ _ _ rfl rfl rfl ?_); refine w_str _ rfl rfl (v := v5) rfl b5 ?_)
              | ((try refine w_yes _ _ _ rfl rfl rfl ?_); refine w_str _ rfl rfl (v := v) rfl (hv.ext (hX2.trans hX)) ?_)
              | fail) <;> (try simp only [Act.put, List.setIfInBounds_toArray, List.set_cons_zero, List.set_cons_succ]))
            go_roundw
            case rel => exact ⟨k + 1, by go_num, by omega, hno2, hX2.trans hX⟩
            case measure => simp [intOf]; omega
end Go.Proofs.Ytabbgnlabiakoaa
