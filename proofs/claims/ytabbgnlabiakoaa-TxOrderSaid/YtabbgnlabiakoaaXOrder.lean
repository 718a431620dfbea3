/- The statement TxOrder: what goes ahead of one that goes ahead of another goes ahead of that; a greater fee always does. No condition. -/
import Derived.Test.YtabbgnlabiakoaaXTells
namespace Go.Proofs.Ytabbgnlabiakoaa
open Go.RowKit Go.ChangeShapes Go.WideShapes Go.ChangeAt

set_option maxRecDepth 100000 in
set_option maxHeartbeats 3200000 in
theorem txOrder_law (a b c : TxD) (W : World) :
    Calls Try.prog 8 #[.agg #[.int .i64 a.id, .int .i64 a.fee], .agg #[.int .i64 b.id, .int .i64 b.fee], .agg #[.int .i64 c.id, .int .i64 c.fee]] W fun e w' => e = .returned (.bool true) ∧ Ext W w' := by
  refine calls_keep ?_
  have haa := hide_ (TxD.less_irrefl a)
  by_cases hgt : b.fee < a.fee
  · have hab0 : TxD.less a b = true := by rw [TxD.less, if_pos (by omega)]; exact decide_eq_true hgt
    have hba := hide_ (show TxD.less b a = false from by rw [TxD.less, if_pos (by omega)]; exact decide_eq_false (by omega))
    have t1 : decide (b.fee < a.fee) = true := by simpa using hgt
    clear hgt
    cases hbc0 : TxD.less b c with
    | true =>
      have hac := hide_ (TxD.less_trans hab0 hbc0)
      have hab := hide_ hab0
      have hbc := hide_ hbc0
      clear hab0 hbc0
      go_enter Try.func8, Try.ntmps8
      go_wp2_with ((first
        | (refine w_box (.tmp 0) [.int .i64 a.id, .int .i64 a.fee] rfl rfl rfl rfl ?_; intro g3 w1 hg1 hX f3)
        | (refine w_box (.tmp 1) [.int .i64 b.id, .int .i64 b.fee] rfl rfl rfl rfl ?_; intro g4 w2 hg2 hx f4; replace f3 := f3.ext hx; replace hX := hX.trans hx; clear hx)
        | (refine w_box (.tmp 2) [.int .i64 c.id, .int .i64 c.fee] rfl rfl rfl rfl ?_; intro g5 w3 hg3 hx f5; replace f3 := f3.ext hx; replace f4 := f4.ext hx; replace hX := hX.trans hx; clear hx)
        | (go_at_call 11; refine (alive_any _).mono ?_; rintro e w4 ⟨rfl, hx⟩; replace f3 := f3.ext hx; replace f4 := f4.ext hx; replace f5 := f5.ext hx; replace hX := hX.trans hx; clear hx)
        | ((try refine w_yes _ _ _ rfl rfl rfl ?_); go_at_call 16; ((with_reducible refine (Less_any a b _).mono ?_); rintro e w5 ⟨rfl, hx⟩; rw [hab.out]; replace f3 := f3.ext hx; replace f4 := f4.ext hx; replace f5 := f5.ext hx; replace hX := hX.trans hx; clear hx))
        | ((try refine w_yes _ _ _ rfl rfl rfl ?_); go_at_call 16; ((with_reducible refine (Less_any b c _).mono ?_); rintro e w5 ⟨rfl, hx⟩; rw [hbc.out]; replace f3 := f3.ext hx; replace f4 := f4.ext hx; replace f5 := f5.ext hx; replace hX := hX.trans hx; clear hx))
        | ((try refine w_yes _ _ _ rfl rfl rfl ?_); go_at_call 16; ((with_reducible refine (Less_any a c _).mono ?_); rintro e w5 ⟨rfl, hx⟩; rw [hac.out]; replace f3 := f3.ext hx; replace f4 := f4.ext hx; replace f5 := f5.ext hx; replace hX := hX.trans hx; clear hx))
        | ((try refine w_yes _ _ _ rfl rfl rfl ?_); go_at_call 16; ((with_reducible refine (Less_any a a _).mono ?_); rintro e w5 ⟨rfl, hx⟩; rw [haa.out]; replace f3 := f3.ext hx; replace f4 := f4.ext hx; replace f5 := f5.ext hx; replace hX := hX.trans hx; clear hx))
        | ((try refine w_yes _ _ _ rfl rfl rfl ?_); go_at_call 16; ((with_reducible refine (Less_any b a _).mono ?_); rintro e w5 ⟨rfl, hx⟩; rw [hba.out]; replace f3 := f3.ext hx; replace f4 := f4.ext hx; replace f5 := f5.ext hx; replace hX := hX.trans hx; clear hx))
        | ((try refine w_yes _ _ _ rfl rfl rfl ?_); refine w_aload Try.stTx _ rfl rfl rfl f3 rfl ?_)
        | ((try refine w_yes _ _ _ rfl rfl rfl ?_); refine w_aload Try.stTx _ rfl rfl rfl f4 rfl ?_)
        | ((try refine w_yes _ _ _ rfl rfl rfl ?_); refine w_aload Try.stTx _ rfl rfl rfl f5 rfl ?_)
        | (refine w_field Try.stTx _ _ _ rfl rfl rfl (by omega) ?_)
        | (refine w_fload _ rfl rfl rfl f3 rfl (agg_of (by kernel_rfl)) ?_)
        | (refine w_fload _ rfl rfl rfl f4 rfl (agg_of (by kernel_rfl)) ?_)
        | fail) <;> (try simp only [Act.put, List.setIfInBounds_toArray, List.set_cons_zero, List.set_cons_succ]))
      go_ret
      exact Keep.intro ⟨rfl, hX⟩
    | false =>
      have hab := hide_ hab0
      have hbc := hide_ hbc0
      clear hab0 hbc0
      go_enter Try.func8, Try.ntmps8
      go_wp2_with ((first
        | (refine w_box (.tmp 0) [.int .i64 a.id, .int .i64 a.fee] rfl rfl rfl rfl ?_; intro g3 w1 hg1 hX f3)
        | (refine w_box (.tmp 1) [.int .i64 b.id, .int .i64 b.fee] rfl rfl rfl rfl ?_; intro g4 w2 hg2 hx f4; replace f3 := f3.ext hx; replace hX := hX.trans hx; clear hx)
        | (refine w_box (.tmp 2) [.int .i64 c.id, .int .i64 c.fee] rfl rfl rfl rfl ?_; intro g5 w3 hg3 hx f5; replace f3 := f3.ext hx; replace f4 := f4.ext hx; replace hX := hX.trans hx; clear hx)
        | (go_at_call 11; refine (alive_any _).mono ?_; rintro e w4 ⟨rfl, hx⟩; replace f3 := f3.ext hx; replace f4 := f4.ext hx; replace f5 := f5.ext hx; replace hX := hX.trans hx; clear hx)
        | ((try refine w_yes _ _ _ rfl rfl rfl ?_); go_at_call 16; ((with_reducible refine (Less_any a b _).mono ?_); rintro e w5 ⟨rfl, hx⟩; rw [hab.out]; replace f3 := f3.ext hx; replace f4 := f4.ext hx; replace f5 := f5.ext hx; replace hX := hX.trans hx; clear hx))
        | ((try refine w_yes _ _ _ rfl rfl rfl ?_); go_at_call 16; ((with_reducible refine (Less_any b c _).mono ?_); rintro e w5 ⟨rfl, hx⟩; rw [hbc.out]; replace f3 := f3.ext hx; replace f4 := f4.ext hx; replace f5 := f5.ext hx; replace hX := hX.trans hx; clear hx))
        | ((try refine w_yes _ _ _ rfl rfl rfl ?_); go_at_call 16; ((with_reducible refine (Less_any a a _).mono ?_); rintro e w5 ⟨rfl, hx⟩; rw [haa.out]; replace f3 := f3.ext hx; replace f4 := f4.ext hx; replace f5 := f5.ext hx; replace hX := hX.trans hx; clear hx))
        | ((try refine w_yes _ _ _ rfl rfl rfl ?_); go_at_call 16; ((with_reducible refine (Less_any b a _).mono ?_); rintro e w5 ⟨rfl, hx⟩; rw [hba.out]; replace f3 := f3.ext hx; replace f4 := f4.ext hx; replace f5 := f5.ext hx; replace hX := hX.trans hx; clear hx))
        | ((try refine w_yes _ _ _ rfl rfl rfl ?_); refine w_aload Try.stTx _ rfl rfl rfl f3 rfl ?_)
        | ((try refine w_yes _ _ _ rfl rfl rfl ?_); refine w_aload Try.stTx _ rfl rfl rfl f4 rfl ?_)
        | ((try refine w_yes _ _ _ rfl rfl rfl ?_); refine w_aload Try.stTx _ rfl rfl rfl f5 rfl ?_)
        | (refine w_field Try.stTx _ _ _ rfl rfl rfl (by omega) ?_)
        | (refine w_fload _ rfl rfl rfl f3 rfl (agg_of (by kernel_rfl)) ?_)
        | (refine w_fload _ rfl rfl rfl f4 rfl (agg_of (by kernel_rfl)) ?_)
        | fail) <;> (try simp only [Act.put, List.setIfInBounds_toArray, List.set_cons_zero, List.set_cons_succ]))
      go_ret
      exact Keep.intro ⟨rfl, hX⟩
  have t1 : decide (b.fee < a.fee) = false := by simpa using hgt
  by_cases hlt : a.fee < b.fee
  · have hab0 : TxD.less a b = false := by rw [TxD.less, if_pos (by omega)]; exact decide_eq_false (by omega)
    clear hgt
    have hab := hide_ hab0
    clear hab0
    go_enter Try.func8, Try.ntmps8
    go_wp2_with ((first
      | (refine w_box (.tmp 0) [.int .i64 a.id, .int .i64 a.fee] rfl rfl rfl rfl ?_; intro g3 w1 hg1 hX f3)
      | (refine w_box (.tmp 1) [.int .i64 b.id, .int .i64 b.fee] rfl rfl rfl rfl ?_; intro g4 w2 hg2 hx f4; replace f3 := f3.ext hx; replace hX := hX.trans hx; clear hx)
      | (refine w_box (.tmp 2) [.int .i64 c.id, .int .i64 c.fee] rfl rfl rfl rfl ?_; intro g5 w3 hg3 hx f5; replace f3 := f3.ext hx; replace f4 := f4.ext hx; replace hX := hX.trans hx; clear hx)
      | (go_at_call 11; refine (alive_any _).mono ?_; rintro e w4 ⟨rfl, hx⟩; replace f3 := f3.ext hx; replace f4 := f4.ext hx; replace f5 := f5.ext hx; replace hX := hX.trans hx; clear hx)
      | ((try refine w_yes _ _ _ rfl rfl rfl ?_); go_at_call 16; ((with_reducible refine (Less_any a b _).mono ?_); rintro e w5 ⟨rfl, hx⟩; rw [hab.out]; replace f3 := f3.ext hx; replace f4 := f4.ext hx; replace f5 := f5.ext hx; replace hX := hX.trans hx; clear hx))
      | ((try refine w_yes _ _ _ rfl rfl rfl ?_); go_at_call 16; ((with_reducible refine (Less_any a a _).mono ?_); rintro e w5 ⟨rfl, hx⟩; rw [haa.out]; replace f3 := f3.ext hx; replace f4 := f4.ext hx; replace f5 := f5.ext hx; replace hX := hX.trans hx; clear hx))
      | ((try refine w_yes _ _ _ rfl rfl rfl ?_); refine w_aload Try.stTx _ rfl rfl rfl f3 rfl ?_)
      | ((try refine w_yes _ _ _ rfl rfl rfl ?_); refine w_aload Try.stTx _ rfl rfl rfl f4 rfl ?_)
      | ((try refine w_yes _ _ _ rfl rfl rfl ?_); refine w_aload Try.stTx _ rfl rfl rfl f5 rfl ?_)
      | (refine w_field Try.stTx _ _ _ rfl rfl rfl (by omega) ?_)
      | (refine w_fload _ rfl rfl rfl f3 rfl (agg_of (by kernel_rfl)) ?_)
      | (refine w_fload _ rfl rfl rfl f4 rfl (agg_of (by kernel_rfl)) ?_)
      | fail) <;> (try simp only [Act.put, List.setIfInBounds_toArray, List.set_cons_zero, List.set_cons_succ]))
    refine wp_region_phx (by kernel_rfl) ?_; intro wd hxd; replace f3 := f3.ext hxd; replace f4 := f4.ext hxd; replace hX := hX.trans hxd
    refine Ph.rest 0 17 (by kernel_rfl) ?_
    refine LinL.step (s := (.val (.pointer (some ⟨g3, 1, none⟩)))) [(3, none)] rfl (by kernel_rfl) (op_runs rfl fun σ w' hx hg => ⟨_, runs_field (ρ := σ.eval) (w := w') Try.stTx (.tmp 3) g3 1 rfl hg.1 (by omega), rfl⟩) ?_
    refine LinL.step (s := (.val (.int .i64 a.fee))) [(42, some 0)] rfl (by kernel_rfl) (op_runs rfl fun σ w' hx hg => ⟨_, runs_fload (ρ := σ.eval) (w := w') (.tmp 42) rfl hg.1 (agg_of (by kernel_rfl) _) (f3.ext hx) rfl, rfl⟩) ?_
    refine LinL.step (s := (.val (.pointer (some ⟨g4, 1, none⟩)))) [(4, none)] rfl (by kernel_rfl) (op_runs rfl fun σ w' hx hg => ⟨_, runs_field (ρ := σ.eval) (w := w') Try.stTx (.tmp 4) g4 1 rfl hg.1 (by omega), rfl⟩) ?_
    refine LinL.step (s := (.val (.int .i64 b.fee))) [(44, some 0)] rfl (by kernel_rfl) (op_runs rfl fun σ w' hx hg => ⟨_, runs_fload (ρ := σ.eval) (w := w') (.tmp 44) rfl hg.1 (agg_of (by kernel_rfl) _) (f4.ext hx) rfl, rfl⟩) ?_
    refine LinL.step (s := (.val (.bool true))) [(43, some 2), (45, some 0)] rfl (by kernel_rfl) (op_runs rfl fun σ w' hx hg => ⟨(.bool true), by have h43 : σ.tmps.getD 43 undef = .int .i64 a.fee := hg.1; have h45 : σ.tmps.getD 45 undef = .int .i64 b.fee := hg.2.1; unfold Runs execOp; simp [Act.eval, h43, h45, go_sem, hlt], rfl⟩) ?_
    refine LinL.step (s := (.val (.bool true))) [(46, some 0)] rfl (by kernel_rfl) (op_copy 46 0 (.val (.bool true)) rfl (.inl rfl) rfl) ?_
    refine LinL.step (s := .val undef) [(3, none), (47, some 0)] rfl (by kernel_rfl) (op_no (reads := [(3, none)]) 5 47 0 false rfl rfl rfl) ?_
    refine LinL.step (s := .val undef) [(4, none), (47, some 1)] rfl (by kernel_rfl) (op_no (reads := [(4, none)]) 5 47 1 false rfl rfl rfl) ?_
    refine LinL.step (s := .val undef) [(48, some 1), (49, some 0), (47, some 2)] rfl (by kernel_rfl) (op_no (reads := [(48, some 1), (49, some 0)]) 5 47 2 false rfl rfl rfl) ?_
    refine LinL.step (s := .val undef) [(3, none), (47, some 3)] rfl (by kernel_rfl) (op_no (reads := [(3, none)]) 5 47 3 false rfl rfl rfl) ?_
    refine LinL.step (s := .val undef) [(51, some 0), (47, some 4)] rfl (by kernel_rfl) (op_no (reads := [(51, some 0)]) 5 47 4 false rfl rfl rfl) ?_
    refine LinL.step (s := .val undef) [(4, none), (47, some 5)] rfl (by kernel_rfl) (op_no (reads := [(4, none)]) 5 47 5 false rfl rfl rfl) ?_
    refine LinL.step (s := .val undef) [(53, some 0), (47, some 6)] rfl (by kernel_rfl) (op_no (reads := [(53, some 0)]) 5 47 6 false rfl rfl rfl) ?_
    refine LinL.step (s := .val undef) [(52, some 2), (54, some 0), (47, some 7)] rfl (by kernel_rfl) (op_no (reads := [(52, some 2), (54, some 0)]) 5 47 7 false rfl rfl rfl) ?_
    refine LinL.step (s := .val undef) [(50, some 5), (55, some 0), (47, some 8)] rfl (by kernel_rfl) (op_no (reads := [(50, some 5), (55, some 0)]) 5 47 8 false rfl rfl rfl) ?_
    refine LinL.step (s := (.val (.bool true))) [(47, some 9), (56, some 0)] rfl (by kernel_rfl) (op_runs rfl fun σ w' hx hg => ⟨_, runs_pick_t (ρ := σ.eval) (w := w') (.tmp 47) (.const (.bool true)) (.tmp 56) rfl hg.1 rfl, rfl⟩) ?_
    refine LinL.step (s := (.val (.bool true))) [(57, some 0)] rfl (by kernel_rfl) (op_copy 57 0 (.val (.bool true)) rfl (.inr rfl) rfl) ?_
    intro wN hxN
    simp only [Fin', List.reverse_cons, List.reverse_nil, List.nil_append, List.cons_append, List.drop_zero, List.take_succ_cons, List.take_zero]
    simp only [Act.put, List.setIfInBounds_toArray, List.set_cons_zero, List.set_cons_succ]
    replace hX := hX.trans hxN
    go_wp2
    go_ret
    exact Keep.intro ⟨rfl, hX⟩
  have hfe : a.fee = b.fee := by omega
  have hlid : TxD.less a b = decide (a.id < b.id) := by rw [TxD.less, if_neg (by simpa using hfe)]
  clear hgt hfe
  by_cases hid : a.id < b.id
  · have hab0 : TxD.less a b = true := by rw [hlid]; exact decide_eq_true hid
    clear hlid
    cases hbc0 : TxD.less b c with
    | true =>
      have hac := hide_ (TxD.less_trans hab0 hbc0)
      have hab := hide_ hab0
      have hbc := hide_ hbc0
      clear hab0 hbc0
      go_enter Try.func8, Try.ntmps8
      go_wp2_with ((first
        | (refine w_box (.tmp 0) [.int .i64 a.id, .int .i64 a.fee] rfl rfl rfl rfl ?_; intro g3 w1 hg1 hX f3)
        | (refine w_box (.tmp 1) [.int .i64 b.id, .int .i64 b.fee] rfl rfl rfl rfl ?_; intro g4 w2 hg2 hx f4; replace f3 := f3.ext hx; replace hX := hX.trans hx; clear hx)
        | (refine w_box (.tmp 2) [.int .i64 c.id, .int .i64 c.fee] rfl rfl rfl rfl ?_; intro g5 w3 hg3 hx f5; replace f3 := f3.ext hx; replace f4 := f4.ext hx; replace hX := hX.trans hx; clear hx)
        | (go_at_call 11; refine (alive_any _).mono ?_; rintro e w4 ⟨rfl, hx⟩; replace f3 := f3.ext hx; replace f4 := f4.ext hx; replace f5 := f5.ext hx; replace hX := hX.trans hx; clear hx)
        | ((try refine w_yes _ _ _ rfl rfl rfl ?_); go_at_call 16; ((with_reducible refine (Less_any a b _).mono ?_); rintro e w5 ⟨rfl, hx⟩; rw [hab.out]; replace f3 := f3.ext hx; replace f4 := f4.ext hx; replace f5 := f5.ext hx; replace hX := hX.trans hx; clear hx))
        | ((try refine w_yes _ _ _ rfl rfl rfl ?_); go_at_call 16; ((with_reducible refine (Less_any b c _).mono ?_); rintro e w5 ⟨rfl, hx⟩; rw [hbc.out]; replace f3 := f3.ext hx; replace f4 := f4.ext hx; replace f5 := f5.ext hx; replace hX := hX.trans hx; clear hx))
        | ((try refine w_yes _ _ _ rfl rfl rfl ?_); go_at_call 16; ((with_reducible refine (Less_any a c _).mono ?_); rintro e w5 ⟨rfl, hx⟩; rw [hac.out]; replace f3 := f3.ext hx; replace f4 := f4.ext hx; replace f5 := f5.ext hx; replace hX := hX.trans hx; clear hx))
        | ((try refine w_yes _ _ _ rfl rfl rfl ?_); go_at_call 16; ((with_reducible refine (Less_any a a _).mono ?_); rintro e w5 ⟨rfl, hx⟩; rw [haa.out]; replace f3 := f3.ext hx; replace f4 := f4.ext hx; replace f5 := f5.ext hx; replace hX := hX.trans hx; clear hx))
        | ((try refine w_yes _ _ _ rfl rfl rfl ?_); refine w_aload Try.stTx _ rfl rfl rfl f3 rfl ?_)
        | ((try refine w_yes _ _ _ rfl rfl rfl ?_); refine w_aload Try.stTx _ rfl rfl rfl f4 rfl ?_)
        | ((try refine w_yes _ _ _ rfl rfl rfl ?_); refine w_aload Try.stTx _ rfl rfl rfl f5 rfl ?_)
        | (refine w_field Try.stTx _ _ _ rfl rfl rfl (by omega) ?_)
        | (refine w_fload _ rfl rfl rfl f3 rfl (agg_of (by kernel_rfl)) ?_)
        | (refine w_fload _ rfl rfl rfl f4 rfl (agg_of (by kernel_rfl)) ?_)
        | fail) <;> (try simp only [Act.put, List.setIfInBounds_toArray, List.set_cons_zero, List.set_cons_succ]))
      refine wp_region_phx (by kernel_rfl) ?_; intro wd hxd; replace f3 := f3.ext hxd; replace f4 := f4.ext hxd; replace hX := hX.trans hxd
      refine Ph.rest 0 17 (by kernel_rfl) ?_
      refine LinL.step (s := (.val (.pointer (some ⟨g3, 1, none⟩)))) [(3, none)] rfl (by kernel_rfl) (op_runs rfl fun σ w' hx hg => ⟨_, runs_field (ρ := σ.eval) (w := w') Try.stTx (.tmp 3) g3 1 rfl hg.1 (by omega), rfl⟩) ?_
      refine LinL.step (s := (.val (.int .i64 a.fee))) [(42, some 0)] rfl (by kernel_rfl) (op_runs rfl fun σ w' hx hg => ⟨_, runs_fload (ρ := σ.eval) (w := w') (.tmp 42) rfl hg.1 (agg_of (by kernel_rfl) _) (f3.ext hx) rfl, rfl⟩) ?_
      refine LinL.step (s := (.val (.pointer (some ⟨g4, 1, none⟩)))) [(4, none)] rfl (by kernel_rfl) (op_runs rfl fun σ w' hx hg => ⟨_, runs_field (ρ := σ.eval) (w := w') Try.stTx (.tmp 4) g4 1 rfl hg.1 (by omega), rfl⟩) ?_
      refine LinL.step (s := (.val (.int .i64 b.fee))) [(44, some 0)] rfl (by kernel_rfl) (op_runs rfl fun σ w' hx hg => ⟨_, runs_fload (ρ := σ.eval) (w := w') (.tmp 44) rfl hg.1 (agg_of (by kernel_rfl) _) (f4.ext hx) rfl, rfl⟩) ?_
      refine LinL.step (s := (.val (.bool false))) [(43, some 2), (45, some 0)] rfl (by kernel_rfl) (op_runs rfl fun σ w' hx hg => ⟨(.bool false), by have h43 : σ.tmps.getD 43 undef = .int .i64 a.fee := hg.1; have h45 : σ.tmps.getD 45 undef = .int .i64 b.fee := hg.2.1; unfold Runs execOp; simp [Act.eval, h43, h45, go_sem, hlt], rfl⟩) ?_
      refine LinL.step (s := (.val (.bool false))) [(46, some 0)] rfl (by kernel_rfl) (op_copy 46 0 (.val (.bool false)) rfl (.inl rfl) rfl) ?_
      refine LinL.step (s := (.val (.agg #[.int .i64 a.id, .int .i64 a.fee]))) [(3, none), (47, some 0)] rfl (by kernel_rfl) (op_yes (reads := [(3, none)]) 5 47 0 false rfl rfl rfl (op_runs rfl fun σ w' hx hg => ⟨_, runs_aload (ρ := σ.eval) (w := w') Try.stTx (.tmp 3) rfl hg.1 (f3.ext hx) rfl, rfl⟩)) ?_
      refine LinL.step (s := (.val (.agg #[.int .i64 b.id, .int .i64 b.fee]))) [(4, none), (47, some 1)] rfl (by kernel_rfl) (op_yes (reads := [(4, none)]) 5 47 1 false rfl rfl rfl (op_runs rfl fun σ w' hx hg => ⟨_, runs_aload (ρ := σ.eval) (w := w') Try.stTx (.tmp 4) rfl hg.1 (f4.ext hx) rfl, rfl⟩)) ?_
      refine LinL.step (s := (.val (.bool true))) [(48, some 1), (49, some 0), (47, some 2)] rfl (by kernel_rfl) (op_yes (reads := [(48, some 1), (49, some 0)]) 5 47 2 false rfl rfl rfl (op_calls 16 #[(.tmp 48), (.tmp 49)] #[23, 23] (fun σ => #[.agg #[.int .i64 a.id, .int .i64 a.fee], .agg #[.int .i64 b.id, .int .i64 b.fee]]) rfl rfl (fun _ _ => rfl) fun σ w' hx hg => ⟨by have h48 : σ.tmps.getD 48 undef = .agg #[.int .i64 a.id, .int .i64 a.fee] := hg.1; have h49 : σ.tmps.getD 49 undef = .agg #[.int .i64 b.id, .int .i64 b.fee] := hg.2.1; simp only [List.map_toArray, List.map_cons, List.map_nil, Act.eval, h48, h49], retR (hab.out ▸ Less_any a b _)⟩)) ?_
      refine LinL.step (s := (.val (.pointer (some ⟨g3, 0, none⟩)))) [(3, none), (47, some 3)] rfl (by kernel_rfl) (op_yes (reads := [(3, none)]) 5 47 3 false rfl rfl rfl (op_runs rfl fun σ w' hx hg => ⟨_, runs_field (ρ := σ.eval) (w := w') Try.stTx (.tmp 3) g3 0 rfl hg.1 (by omega), rfl⟩)) ?_
      refine LinL.step (s := (.val (.int .i64 a.id))) [(51, some 0), (47, some 4)] rfl (by kernel_rfl) (op_yes (reads := [(51, some 0)]) 5 47 4 false rfl rfl rfl (op_runs rfl fun σ w' hx hg => ⟨_, runs_fload (ρ := σ.eval) (w := w') (.tmp 51) rfl hg.1 (agg_of (by kernel_rfl) _) (f3.ext hx) rfl, rfl⟩)) ?_
      refine LinL.step (s := (.val (.pointer (some ⟨g4, 0, none⟩)))) [(4, none), (47, some 5)] rfl (by kernel_rfl) (op_yes (reads := [(4, none)]) 5 47 5 false rfl rfl rfl (op_runs rfl fun σ w' hx hg => ⟨_, runs_field (ρ := σ.eval) (w := w') Try.stTx (.tmp 4) g4 0 rfl hg.1 (by omega), rfl⟩)) ?_
      refine LinL.step (s := (.val (.int .i64 b.id))) [(53, some 0), (47, some 6)] rfl (by kernel_rfl) (op_yes (reads := [(53, some 0)]) 5 47 6 false rfl rfl rfl (op_runs rfl fun σ w' hx hg => ⟨_, runs_fload (ρ := σ.eval) (w := w') (.tmp 53) rfl hg.1 (agg_of (by kernel_rfl) _) (f4.ext hx) rfl, rfl⟩)) ?_
      refine LinL.step (s := (.val (.bool true))) [(52, some 2), (54, some 0), (47, some 7)] rfl (by kernel_rfl) (op_yes (reads := [(52, some 2), (54, some 0)]) 5 47 7 false rfl rfl rfl (op_runs rfl fun σ w' hx hg => ⟨(.bool true), by have h52 : σ.tmps.getD 52 undef = .int .i64 a.id := hg.1; have h54 : σ.tmps.getD 54 undef = .int .i64 b.id := hg.2.1; unfold Runs execOp; simp [Act.eval, h52, h54, go_sem, hid], rfl⟩)) ?_
      refine LinL.step (s := (.val (.bool true))) [(50, some 5), (55, some 0), (47, some 8)] rfl (by kernel_rfl) (op_yes (reads := [(50, some 5), (55, some 0)]) 5 47 8 false rfl rfl rfl (op_runs rfl fun σ w' hx hg => ⟨(.bool true), by have h50 : σ.tmps.getD 50 undef = .bool true := hg.1; have h55 : σ.tmps.getD 55 undef = .bool true := hg.2.1; unfold Runs execOp; simp [Act.eval, h50, h55, go_sem], rfl⟩)) ?_
      refine LinL.step (s := (.val (.bool true))) [(47, some 9), (56, some 0)] rfl (by kernel_rfl) (op_runs rfl fun σ w' hx hg => ⟨_, runs_pick_f (ρ := σ.eval) (w := w') (.tmp 47) (.const (.bool true)) (.tmp 56) rfl hg.1 hg.2.1, rfl⟩) ?_
      refine LinL.step (s := (.val (.bool true))) [(57, some 0)] rfl (by kernel_rfl) (op_copy 57 0 (.val (.bool true)) rfl (.inr rfl) rfl) ?_
      intro wN hxN
      simp only [Fin', List.reverse_cons, List.reverse_nil, List.nil_append, List.cons_append, List.drop_zero, List.take_succ_cons, List.take_zero]
      simp only [Act.put, List.setIfInBounds_toArray, List.set_cons_zero, List.set_cons_succ]
      replace hX := hX.trans hxN
      go_wp2
      go_ret
      exact Keep.intro ⟨rfl, hX⟩
    | false =>
      have hab := hide_ hab0
      have hbc := hide_ hbc0
      clear hab0 hbc0
      go_enter Try.func8, Try.ntmps8
      go_wp2_with ((first
        | (refine w_box (.tmp 0) [.int .i64 a.id, .int .i64 a.fee] rfl rfl rfl rfl ?_; intro g3 w1 hg1 hX f3)
        | (refine w_box (.tmp 1) [.int .i64 b.id, .int .i64 b.fee] rfl rfl rfl rfl ?_; intro g4 w2 hg2 hx f4; replace f3 := f3.ext hx; replace hX := hX.trans hx; clear hx)
        | (refine w_box (.tmp 2) [.int .i64 c.id, .int .i64 c.fee] rfl rfl rfl rfl ?_; intro g5 w3 hg3 hx f5; replace f3 := f3.ext hx; replace f4 := f4.ext hx; replace hX := hX.trans hx; clear hx)
        | (go_at_call 11; refine (alive_any _).mono ?_; rintro e w4 ⟨rfl, hx⟩; replace f3 := f3.ext hx; replace f4 := f4.ext hx; replace f5 := f5.ext hx; replace hX := hX.trans hx; clear hx)
        | ((try refine w_yes _ _ _ rfl rfl rfl ?_); go_at_call 16; ((with_reducible refine (Less_any a b _).mono ?_); rintro e w5 ⟨rfl, hx⟩; rw [hab.out]; replace f3 := f3.ext hx; replace f4 := f4.ext hx; replace f5 := f5.ext hx; replace hX := hX.trans hx; clear hx))
        | ((try refine w_yes _ _ _ rfl rfl rfl ?_); go_at_call 16; ((with_reducible refine (Less_any b c _).mono ?_); rintro e w5 ⟨rfl, hx⟩; rw [hbc.out]; replace f3 := f3.ext hx; replace f4 := f4.ext hx; replace f5 := f5.ext hx; replace hX := hX.trans hx; clear hx))
        | ((try refine w_yes _ _ _ rfl rfl rfl ?_); go_at_call 16; ((with_reducible refine (Less_any a a _).mono ?_); rintro e w5 ⟨rfl, hx⟩; rw [haa.out]; replace f3 := f3.ext hx; replace f4 := f4.ext hx; replace f5 := f5.ext hx; replace hX := hX.trans hx; clear hx))
        | ((try refine w_yes _ _ _ rfl rfl rfl ?_); refine w_aload Try.stTx _ rfl rfl rfl f3 rfl ?_)
        | ((try refine w_yes _ _ _ rfl rfl rfl ?_); refine w_aload Try.stTx _ rfl rfl rfl f4 rfl ?_)
        | ((try refine w_yes _ _ _ rfl rfl rfl ?_); refine w_aload Try.stTx _ rfl rfl rfl f5 rfl ?_)
        | (refine w_field Try.stTx _ _ _ rfl rfl rfl (by omega) ?_)
        | (refine w_fload _ rfl rfl rfl f3 rfl (agg_of (by kernel_rfl)) ?_)
        | (refine w_fload _ rfl rfl rfl f4 rfl (agg_of (by kernel_rfl)) ?_)
        | fail) <;> (try simp only [Act.put, List.setIfInBounds_toArray, List.set_cons_zero, List.set_cons_succ]))
      refine wp_region_phx (by kernel_rfl) ?_; intro wd hxd; replace f3 := f3.ext hxd; replace f4 := f4.ext hxd; replace hX := hX.trans hxd
      refine Ph.rest 0 17 (by kernel_rfl) ?_
      refine LinL.step (s := (.val (.pointer (some ⟨g3, 1, none⟩)))) [(3, none)] rfl (by kernel_rfl) (op_runs rfl fun σ w' hx hg => ⟨_, runs_field (ρ := σ.eval) (w := w') Try.stTx (.tmp 3) g3 1 rfl hg.1 (by omega), rfl⟩) ?_
      refine LinL.step (s := (.val (.int .i64 a.fee))) [(42, some 0)] rfl (by kernel_rfl) (op_runs rfl fun σ w' hx hg => ⟨_, runs_fload (ρ := σ.eval) (w := w') (.tmp 42) rfl hg.1 (agg_of (by kernel_rfl) _) (f3.ext hx) rfl, rfl⟩) ?_
      refine LinL.step (s := (.val (.pointer (some ⟨g4, 1, none⟩)))) [(4, none)] rfl (by kernel_rfl) (op_runs rfl fun σ w' hx hg => ⟨_, runs_field (ρ := σ.eval) (w := w') Try.stTx (.tmp 4) g4 1 rfl hg.1 (by omega), rfl⟩) ?_
      refine LinL.step (s := (.val (.int .i64 b.fee))) [(44, some 0)] rfl (by kernel_rfl) (op_runs rfl fun σ w' hx hg => ⟨_, runs_fload (ρ := σ.eval) (w := w') (.tmp 44) rfl hg.1 (agg_of (by kernel_rfl) _) (f4.ext hx) rfl, rfl⟩) ?_
      refine LinL.step (s := (.val (.bool false))) [(43, some 2), (45, some 0)] rfl (by kernel_rfl) (op_runs rfl fun σ w' hx hg => ⟨(.bool false), by have h43 : σ.tmps.getD 43 undef = .int .i64 a.fee := hg.1; have h45 : σ.tmps.getD 45 undef = .int .i64 b.fee := hg.2.1; unfold Runs execOp; simp [Act.eval, h43, h45, go_sem, hlt], rfl⟩) ?_
      refine LinL.step (s := (.val (.bool false))) [(46, some 0)] rfl (by kernel_rfl) (op_copy 46 0 (.val (.bool false)) rfl (.inl rfl) rfl) ?_
      refine LinL.step (s := (.val (.agg #[.int .i64 a.id, .int .i64 a.fee]))) [(3, none), (47, some 0)] rfl (by kernel_rfl) (op_yes (reads := [(3, none)]) 5 47 0 false rfl rfl rfl (op_runs rfl fun σ w' hx hg => ⟨_, runs_aload (ρ := σ.eval) (w := w') Try.stTx (.tmp 3) rfl hg.1 (f3.ext hx) rfl, rfl⟩)) ?_
      refine LinL.step (s := (.val (.agg #[.int .i64 b.id, .int .i64 b.fee]))) [(4, none), (47, some 1)] rfl (by kernel_rfl) (op_yes (reads := [(4, none)]) 5 47 1 false rfl rfl rfl (op_runs rfl fun σ w' hx hg => ⟨_, runs_aload (ρ := σ.eval) (w := w') Try.stTx (.tmp 4) rfl hg.1 (f4.ext hx) rfl, rfl⟩)) ?_
      refine LinL.step (s := (.val (.bool true))) [(48, some 1), (49, some 0), (47, some 2)] rfl (by kernel_rfl) (op_yes (reads := [(48, some 1), (49, some 0)]) 5 47 2 false rfl rfl rfl (op_calls 16 #[(.tmp 48), (.tmp 49)] #[23, 23] (fun σ => #[.agg #[.int .i64 a.id, .int .i64 a.fee], .agg #[.int .i64 b.id, .int .i64 b.fee]]) rfl rfl (fun _ _ => rfl) fun σ w' hx hg => ⟨by have h48 : σ.tmps.getD 48 undef = .agg #[.int .i64 a.id, .int .i64 a.fee] := hg.1; have h49 : σ.tmps.getD 49 undef = .agg #[.int .i64 b.id, .int .i64 b.fee] := hg.2.1; simp only [List.map_toArray, List.map_cons, List.map_nil, Act.eval, h48, h49], retR (hab.out ▸ Less_any a b _)⟩)) ?_
      refine LinL.step (s := (.val (.pointer (some ⟨g3, 0, none⟩)))) [(3, none), (47, some 3)] rfl (by kernel_rfl) (op_yes (reads := [(3, none)]) 5 47 3 false rfl rfl rfl (op_runs rfl fun σ w' hx hg => ⟨_, runs_field (ρ := σ.eval) (w := w') Try.stTx (.tmp 3) g3 0 rfl hg.1 (by omega), rfl⟩)) ?_
      refine LinL.step (s := (.val (.int .i64 a.id))) [(51, some 0), (47, some 4)] rfl (by kernel_rfl) (op_yes (reads := [(51, some 0)]) 5 47 4 false rfl rfl rfl (op_runs rfl fun σ w' hx hg => ⟨_, runs_fload (ρ := σ.eval) (w := w') (.tmp 51) rfl hg.1 (agg_of (by kernel_rfl) _) (f3.ext hx) rfl, rfl⟩)) ?_
      refine LinL.step (s := (.val (.pointer (some ⟨g4, 0, none⟩)))) [(4, none), (47, some 5)] rfl (by kernel_rfl) (op_yes (reads := [(4, none)]) 5 47 5 false rfl rfl rfl (op_runs rfl fun σ w' hx hg => ⟨_, runs_field (ρ := σ.eval) (w := w') Try.stTx (.tmp 4) g4 0 rfl hg.1 (by omega), rfl⟩)) ?_
      refine LinL.step (s := (.val (.int .i64 b.id))) [(53, some 0), (47, some 6)] rfl (by kernel_rfl) (op_yes (reads := [(53, some 0)]) 5 47 6 false rfl rfl rfl (op_runs rfl fun σ w' hx hg => ⟨_, runs_fload (ρ := σ.eval) (w := w') (.tmp 53) rfl hg.1 (agg_of (by kernel_rfl) _) (f4.ext hx) rfl, rfl⟩)) ?_
      refine LinL.step (s := (.val (.bool true))) [(52, some 2), (54, some 0), (47, some 7)] rfl (by kernel_rfl) (op_yes (reads := [(52, some 2), (54, some 0)]) 5 47 7 false rfl rfl rfl (op_runs rfl fun σ w' hx hg => ⟨(.bool true), by have h52 : σ.tmps.getD 52 undef = .int .i64 a.id := hg.1; have h54 : σ.tmps.getD 54 undef = .int .i64 b.id := hg.2.1; unfold Runs execOp; simp [Act.eval, h52, h54, go_sem, hid], rfl⟩)) ?_
      refine LinL.step (s := (.val (.bool true))) [(50, some 5), (55, some 0), (47, some 8)] rfl (by kernel_rfl) (op_yes (reads := [(50, some 5), (55, some 0)]) 5 47 8 false rfl rfl rfl (op_runs rfl fun σ w' hx hg => ⟨(.bool true), by have h50 : σ.tmps.getD 50 undef = .bool true := hg.1; have h55 : σ.tmps.getD 55 undef = .bool true := hg.2.1; unfold Runs execOp; simp [Act.eval, h50, h55, go_sem], rfl⟩)) ?_
      refine LinL.step (s := (.val (.bool true))) [(47, some 9), (56, some 0)] rfl (by kernel_rfl) (op_runs rfl fun σ w' hx hg => ⟨_, runs_pick_f (ρ := σ.eval) (w := w') (.tmp 47) (.const (.bool true)) (.tmp 56) rfl hg.1 hg.2.1, rfl⟩) ?_
      refine LinL.step (s := (.val (.bool true))) [(57, some 0)] rfl (by kernel_rfl) (op_copy 57 0 (.val (.bool true)) rfl (.inr rfl) rfl) ?_
      intro wN hxN
      simp only [Fin', List.reverse_cons, List.reverse_nil, List.nil_append, List.cons_append, List.drop_zero, List.take_succ_cons, List.take_zero]
      simp only [Act.put, List.setIfInBounds_toArray, List.set_cons_zero, List.set_cons_succ]
      replace hX := hX.trans hxN
      go_wp2
      go_ret
      exact Keep.intro ⟨rfl, hX⟩
  · have hab0 : TxD.less a b = false := by rw [hlid]; exact decide_eq_false hid
    clear hlid
    have hab := hide_ hab0
    clear hab0
    go_enter Try.func8, Try.ntmps8
    go_wp2_with ((first
      | (refine w_box (.tmp 0) [.int .i64 a.id, .int .i64 a.fee] rfl rfl rfl rfl ?_; intro g3 w1 hg1 hX f3)
      | (refine w_box (.tmp 1) [.int .i64 b.id, .int .i64 b.fee] rfl rfl rfl rfl ?_; intro g4 w2 hg2 hx f4; replace f3 := f3.ext hx; replace hX := hX.trans hx; clear hx)
      | (refine w_box (.tmp 2) [.int .i64 c.id, .int .i64 c.fee] rfl rfl rfl rfl ?_; intro g5 w3 hg3 hx f5; replace f3 := f3.ext hx; replace f4 := f4.ext hx; replace hX := hX.trans hx; clear hx)
      | (go_at_call 11; refine (alive_any _).mono ?_; rintro e w4 ⟨rfl, hx⟩; replace f3 := f3.ext hx; replace f4 := f4.ext hx; replace f5 := f5.ext hx; replace hX := hX.trans hx; clear hx)
      | ((try refine w_yes _ _ _ rfl rfl rfl ?_); go_at_call 16; ((with_reducible refine (Less_any a b _).mono ?_); rintro e w5 ⟨rfl, hx⟩; rw [hab.out]; replace f3 := f3.ext hx; replace f4 := f4.ext hx; replace f5 := f5.ext hx; replace hX := hX.trans hx; clear hx))
      | ((try refine w_yes _ _ _ rfl rfl rfl ?_); go_at_call 16; ((with_reducible refine (Less_any a a _).mono ?_); rintro e w5 ⟨rfl, hx⟩; rw [haa.out]; replace f3 := f3.ext hx; replace f4 := f4.ext hx; replace f5 := f5.ext hx; replace hX := hX.trans hx; clear hx))
      | ((try refine w_yes _ _ _ rfl rfl rfl ?_); refine w_aload Try.stTx _ rfl rfl rfl f3 rfl ?_)
      | ((try refine w_yes _ _ _ rfl rfl rfl ?_); refine w_aload Try.stTx _ rfl rfl rfl f4 rfl ?_)
      | ((try refine w_yes _ _ _ rfl rfl rfl ?_); refine w_aload Try.stTx _ rfl rfl rfl f5 rfl ?_)
      | (refine w_field Try.stTx _ _ _ rfl rfl rfl (by omega) ?_)
      | (refine w_fload _ rfl rfl rfl f3 rfl (agg_of (by kernel_rfl)) ?_)
      | (refine w_fload _ rfl rfl rfl f4 rfl (agg_of (by kernel_rfl)) ?_)
      | fail) <;> (try simp only [Act.put, List.setIfInBounds_toArray, List.set_cons_zero, List.set_cons_succ]))
    refine wp_region_phx (by kernel_rfl) ?_; intro wd hxd; replace f3 := f3.ext hxd; replace f4 := f4.ext hxd; replace hX := hX.trans hxd
    refine Ph.rest 0 17 (by kernel_rfl) ?_
    refine LinL.step (s := (.val (.pointer (some ⟨g3, 1, none⟩)))) [(3, none)] rfl (by kernel_rfl) (op_runs rfl fun σ w' hx hg => ⟨_, runs_field (ρ := σ.eval) (w := w') Try.stTx (.tmp 3) g3 1 rfl hg.1 (by omega), rfl⟩) ?_
    refine LinL.step (s := (.val (.int .i64 a.fee))) [(42, some 0)] rfl (by kernel_rfl) (op_runs rfl fun σ w' hx hg => ⟨_, runs_fload (ρ := σ.eval) (w := w') (.tmp 42) rfl hg.1 (agg_of (by kernel_rfl) _) (f3.ext hx) rfl, rfl⟩) ?_
    refine LinL.step (s := (.val (.pointer (some ⟨g4, 1, none⟩)))) [(4, none)] rfl (by kernel_rfl) (op_runs rfl fun σ w' hx hg => ⟨_, runs_field (ρ := σ.eval) (w := w') Try.stTx (.tmp 4) g4 1 rfl hg.1 (by omega), rfl⟩) ?_
    refine LinL.step (s := (.val (.int .i64 b.fee))) [(44, some 0)] rfl (by kernel_rfl) (op_runs rfl fun σ w' hx hg => ⟨_, runs_fload (ρ := σ.eval) (w := w') (.tmp 44) rfl hg.1 (agg_of (by kernel_rfl) _) (f4.ext hx) rfl, rfl⟩) ?_
    refine LinL.step (s := (.val (.bool false))) [(43, some 2), (45, some 0)] rfl (by kernel_rfl) (op_runs rfl fun σ w' hx hg => ⟨(.bool false), by have h43 : σ.tmps.getD 43 undef = .int .i64 a.fee := hg.1; have h45 : σ.tmps.getD 45 undef = .int .i64 b.fee := hg.2.1; unfold Runs execOp; simp [Act.eval, h43, h45, go_sem, hlt], rfl⟩) ?_
    refine LinL.step (s := (.val (.bool false))) [(46, some 0)] rfl (by kernel_rfl) (op_copy 46 0 (.val (.bool false)) rfl (.inl rfl) rfl) ?_
    refine LinL.step (s := (.val (.agg #[.int .i64 a.id, .int .i64 a.fee]))) [(3, none), (47, some 0)] rfl (by kernel_rfl) (op_yes (reads := [(3, none)]) 5 47 0 false rfl rfl rfl (op_runs rfl fun σ w' hx hg => ⟨_, runs_aload (ρ := σ.eval) (w := w') Try.stTx (.tmp 3) rfl hg.1 (f3.ext hx) rfl, rfl⟩)) ?_
    refine LinL.step (s := (.val (.agg #[.int .i64 b.id, .int .i64 b.fee]))) [(4, none), (47, some 1)] rfl (by kernel_rfl) (op_yes (reads := [(4, none)]) 5 47 1 false rfl rfl rfl (op_runs rfl fun σ w' hx hg => ⟨_, runs_aload (ρ := σ.eval) (w := w') Try.stTx (.tmp 4) rfl hg.1 (f4.ext hx) rfl, rfl⟩)) ?_
    refine LinL.step (s := (.val (.bool false))) [(48, some 1), (49, some 0), (47, some 2)] rfl (by kernel_rfl) (op_yes (reads := [(48, some 1), (49, some 0)]) 5 47 2 false rfl rfl rfl (op_calls 16 #[(.tmp 48), (.tmp 49)] #[23, 23] (fun σ => #[.agg #[.int .i64 a.id, .int .i64 a.fee], .agg #[.int .i64 b.id, .int .i64 b.fee]]) rfl rfl (fun _ _ => rfl) fun σ w' hx hg => ⟨by have h48 : σ.tmps.getD 48 undef = .agg #[.int .i64 a.id, .int .i64 a.fee] := hg.1; have h49 : σ.tmps.getD 49 undef = .agg #[.int .i64 b.id, .int .i64 b.fee] := hg.2.1; simp only [List.map_toArray, List.map_cons, List.map_nil, Act.eval, h48, h49], retR (hab.out ▸ Less_any a b _)⟩)) ?_
    refine LinL.step (s := (.val (.pointer (some ⟨g3, 0, none⟩)))) [(3, none), (47, some 3)] rfl (by kernel_rfl) (op_yes (reads := [(3, none)]) 5 47 3 false rfl rfl rfl (op_runs rfl fun σ w' hx hg => ⟨_, runs_field (ρ := σ.eval) (w := w') Try.stTx (.tmp 3) g3 0 rfl hg.1 (by omega), rfl⟩)) ?_
    refine LinL.step (s := (.val (.int .i64 a.id))) [(51, some 0), (47, some 4)] rfl (by kernel_rfl) (op_yes (reads := [(51, some 0)]) 5 47 4 false rfl rfl rfl (op_runs rfl fun σ w' hx hg => ⟨_, runs_fload (ρ := σ.eval) (w := w') (.tmp 51) rfl hg.1 (agg_of (by kernel_rfl) _) (f3.ext hx) rfl, rfl⟩)) ?_
    refine LinL.step (s := (.val (.pointer (some ⟨g4, 0, none⟩)))) [(4, none), (47, some 5)] rfl (by kernel_rfl) (op_yes (reads := [(4, none)]) 5 47 5 false rfl rfl rfl (op_runs rfl fun σ w' hx hg => ⟨_, runs_field (ρ := σ.eval) (w := w') Try.stTx (.tmp 4) g4 0 rfl hg.1 (by omega), rfl⟩)) ?_
    refine LinL.step (s := (.val (.int .i64 b.id))) [(53, some 0), (47, some 6)] rfl (by kernel_rfl) (op_yes (reads := [(53, some 0)]) 5 47 6 false rfl rfl rfl (op_runs rfl fun σ w' hx hg => ⟨_, runs_fload (ρ := σ.eval) (w := w') (.tmp 53) rfl hg.1 (agg_of (by kernel_rfl) _) (f4.ext hx) rfl, rfl⟩)) ?_
    refine LinL.step (s := (.val (.bool false))) [(52, some 2), (54, some 0), (47, some 7)] rfl (by kernel_rfl) (op_yes (reads := [(52, some 2), (54, some 0)]) 5 47 7 false rfl rfl rfl (op_runs rfl fun σ w' hx hg => ⟨(.bool false), by have h52 : σ.tmps.getD 52 undef = .int .i64 a.id := hg.1; have h54 : σ.tmps.getD 54 undef = .int .i64 b.id := hg.2.1; unfold Runs execOp; simp [Act.eval, h52, h54, go_sem, hid], rfl⟩)) ?_
    refine LinL.step (s := (.val (.bool true))) [(50, some 5), (55, some 0), (47, some 8)] rfl (by kernel_rfl) (op_yes (reads := [(50, some 5), (55, some 0)]) 5 47 8 false rfl rfl rfl (op_runs rfl fun σ w' hx hg => ⟨(.bool true), by have h50 : σ.tmps.getD 50 undef = .bool false := hg.1; have h55 : σ.tmps.getD 55 undef = .bool false := hg.2.1; unfold Runs execOp; simp [Act.eval, h50, h55, go_sem], rfl⟩)) ?_
    refine LinL.step (s := (.val (.bool true))) [(47, some 9), (56, some 0)] rfl (by kernel_rfl) (op_runs rfl fun σ w' hx hg => ⟨_, runs_pick_f (ρ := σ.eval) (w := w') (.tmp 47) (.const (.bool true)) (.tmp 56) rfl hg.1 hg.2.1, rfl⟩) ?_
    refine LinL.step (s := (.val (.bool true))) [(57, some 0)] rfl (by kernel_rfl) (op_copy 57 0 (.val (.bool true)) rfl (.inr rfl) rfl) ?_
    intro wN hxN
    simp only [Fin', List.reverse_cons, List.reverse_nil, List.nil_append, List.cons_append, List.drop_zero, List.take_succ_cons, List.take_zero]
    simp only [Act.put, List.setIfInBounds_toArray, List.set_cons_zero, List.set_cons_succ]
    replace hX := hX.trans hxN
    go_wp2
    go_ret
    exact Keep.intro ⟨rfl, hX⟩

set_option maxRecDepth 100000 in
theorem txOrder_lifted (os : Os) (started : os.Started) (H : Type) (enc : TypeId × Value → H) :
    ReturnsInHanded {} Try.checked os 8 .any (Rows.txOrderSpec.pre6 enc Try.prog Try.f8 Rows.txOrderRow.domain false) (Rows.txOrderSpec.post enc Try.prog Try.f8 false true false false) := by
  refine law_lifted (s := Rows.txOrderSpec) (conds := Rows.txOrderRow.domain) Try.func8 (by kernel_rfl) rfl (fun H ds h => by
      rw [show Try.f8.params.size = 3 from rfl] at h
      match ds, h with
      | [d0, d1, d2], _ => rfl) rfl rfl (by decide +kernel) os started H enc
    (ChangeSpec.witness6 (enc := enc) (C := Try.checked) false ⟨#[], #[.agg #[.int .i64 0, .int .i64 0], .agg #[.int .i64 0, .int .i64 0], .agg #[.int .i64 0, .int .i64 0]], []⟩ 8 (by kernel_rfl) (by kernel_rfl) (by kernel_rfl) (by kernel_rfl)) ?_
  intro W base args ds p hval hA hsz _
  have hp : Try.f8.params.toList = [23, 23, 23] := rfl
  rw [hp] at hA hsz
  obtain ⟨v0, v1, v2, d0, d1, d2, p0, p1, p2, rfl, rfl, rfl, h0, h1, h2⟩ := trodAll_three hA
  obtain ⟨row0, t0, rfl, n0, rfl, a0⟩ := arg_Tx hsz (j := 0) rfl rfl (hval 0 23 v0 rfl rfl) h0
  obtain ⟨row1, t1, rfl, n1, rfl, a1⟩ := arg_Tx hsz (j := 1) rfl rfl (hval 1 23 v1 rfl rfl) h1
  obtain ⟨row2, t2, rfl, n2, rfl, a2⟩ := arg_Tx hsz (j := 2) rfl rfl (hval 2 23 v2 rfl rfl) h2
  exact txOrder_law t0 t1 t2 W

theorem txOrder_holds : Rows.TxOrderSaid :=
  OpenClaim.holds_of_wide 8 Try.f8 rfl rfl rfl rfl rfl rfl rfl ⟨rfl, rfl, rfl, rfl, rfl⟩ rfl rfl rfl rfl rfl (by kernel_rfl) Try.func8 (by kernel_rfl)
    (of_decide_eq_true (by kernel_rfl)) (by unfold Func.isWrapper; first | (rw [if_pos (by decide +kernel)]; kernel_rfl) | (rw [if_neg (by decide +kernel)]; exact ⟨rfl, rfl⟩))
    (fun os started H enc _ => txOrder_lifted os started H enc)
#print axioms txOrder_holds

end Go.Proofs.Ytabbgnlabiakoaa
