/- The contracts of Right and Less, of package tx and of the document's; two transactions compared. -/
import Derived.Test.YtabbgnlabiakoaaTRec
import Derived.Test.YtabbgnlabiakoaaArr
import Derived.Laws.StructEq
namespace Go.Proofs.Ytabbgnlabiakoaa
open Go.RowKit

set_option maxRecDepth 100000 in
set_option maxHeartbeats 800000 in
theorem Right_any (t : TxD) (w : World) : Calls Try.prog 14 #[.agg #[.int .i64 t.id, .int .i64 t.fee]] w fun e w' => e = .returned (.bool (decide t.Right)) ∧ Ext w w' := by
  refine calls_keep ?_
  by_cases h1 : 1 ≤ t.id
  · have t1 : decide (1 ≤ t.id) = true := by simpa using h1
    by_cases h2 : t.id ≤ 1000000
    · have t2 : decide (t.id ≤ 1000000) = true := by simpa using h2
      by_cases h3 : 0 ≤ t.fee
      · have t3 : decide (0 ≤ t.fee) = true := by simpa using h3
        by_cases h4 : t.fee ≤ 1000
        · have t4 : decide (t.fee ≤ 1000) = true := by simpa using h4
          have hdec := hide_ (show decide t.Right = true from decide_eq_true ⟨by omega, h2, h3, h4⟩)
          clear h1 h2 h3 h4
          go_enter Try.func14, Try.ntmps14
          go_wp2_with ((first
            | (refine w_box _ [.int .i64 t.id, .int .i64 t.fee] rfl rfl rfl rfl ?_; intro g1 w1 hg1 hX f1)
            | ((try refine w_yes _ _ _ rfl rfl rfl ?_); refine w_field Try.stTx _ _ _ rfl rfl rfl (by omega) ?_)
            | ((try refine w_yes _ _ _ rfl rfl rfl ?_); refine w_fload _ rfl rfl rfl f1 rfl (agg_of (by kernel_rfl)) ?_)
            | fail) <;> (try simp only [Act.put, List.setIfInBounds_toArray, List.set_cons_zero, List.set_cons_succ]))
          go_ret
          exact Keep.intro ⟨by rw [hdec.out]; rfl, hX⟩
        · have t4 : decide (t.fee ≤ 1000) = false := by simpa using h4
          have hdec := hide_ (show decide t.Right = false from decide_eq_false (fun h => h4 (by have := h.2.2.2; omega)))
          clear h1 h2 h3 h4
          go_enter Try.func14, Try.ntmps14
          go_wp2_with ((first
            | (refine w_box _ [.int .i64 t.id, .int .i64 t.fee] rfl rfl rfl rfl ?_; intro g1 w1 hg1 hX f1)
            | ((try refine w_yes _ _ _ rfl rfl rfl ?_); refine w_field Try.stTx _ _ _ rfl rfl rfl (by omega) ?_)
            | ((try refine w_yes _ _ _ rfl rfl rfl ?_); refine w_fload _ rfl rfl rfl f1 rfl (agg_of (by kernel_rfl)) ?_)
            | fail) <;> (try simp only [Act.put, List.setIfInBounds_toArray, List.set_cons_zero, List.set_cons_succ]))
          go_ret
          exact Keep.intro ⟨by rw [hdec.out]; rfl, hX⟩
      · have t3 : decide (0 ≤ t.fee) = false := by simpa using h3
        have hdec := hide_ (show decide t.Right = false from decide_eq_false (fun h => h3 (by have := h.2.2.1; omega)))
        clear h1 h2 h3
        go_enter Try.func14, Try.ntmps14
        go_wp2_with ((first
          | (refine w_box _ [.int .i64 t.id, .int .i64 t.fee] rfl rfl rfl rfl ?_; intro g1 w1 hg1 hX f1)
          | ((try refine w_yes _ _ _ rfl rfl rfl ?_); refine w_field Try.stTx _ _ _ rfl rfl rfl (by omega) ?_)
          | ((try refine w_yes _ _ _ rfl rfl rfl ?_); refine w_fload _ rfl rfl rfl f1 rfl (agg_of (by kernel_rfl)) ?_)
          | fail) <;> (try simp only [Act.put, List.setIfInBounds_toArray, List.set_cons_zero, List.set_cons_succ]))
        go_ret
        exact Keep.intro ⟨by rw [hdec.out]; rfl, hX⟩
    · have t2 : decide (t.id ≤ 1000000) = false := by simpa using h2
      have hdec := hide_ (show decide t.Right = false from decide_eq_false (fun h => h2 (by have := h.2.1; omega)))
      clear h1 h2
      go_enter Try.func14, Try.ntmps14
      go_wp2_with ((first
        | (refine w_box _ [.int .i64 t.id, .int .i64 t.fee] rfl rfl rfl rfl ?_; intro g1 w1 hg1 hX f1)
        | ((try refine w_yes _ _ _ rfl rfl rfl ?_); refine w_field Try.stTx _ _ _ rfl rfl rfl (by omega) ?_)
        | ((try refine w_yes _ _ _ rfl rfl rfl ?_); refine w_fload _ rfl rfl rfl f1 rfl (agg_of (by kernel_rfl)) ?_)
        | fail) <;> (try simp only [Act.put, List.setIfInBounds_toArray, List.set_cons_zero, List.set_cons_succ]))
      go_ret
      exact Keep.intro ⟨by rw [hdec.out]; rfl, hX⟩
  · have t1 : decide (1 ≤ t.id) = false := by simpa using h1
    have hdec := hide_ (show decide t.Right = false from decide_eq_false (fun h => h1 (by have := h.1; omega)))
    clear h1
    go_enter Try.func14, Try.ntmps14
    go_wp2_with ((first
      | (refine w_box _ [.int .i64 t.id, .int .i64 t.fee] rfl rfl rfl rfl ?_; intro g1 w1 hg1 hX f1)
      | ((try refine w_yes _ _ _ rfl rfl rfl ?_); refine w_field Try.stTx _ _ _ rfl rfl rfl (by omega) ?_)
      | ((try refine w_yes _ _ _ rfl rfl rfl ?_); refine w_fload _ rfl rfl rfl f1 rfl (agg_of (by kernel_rfl)) ?_)
      | fail) <;> (try simp only [Act.put, List.setIfInBounds_toArray, List.set_cons_zero, List.set_cons_succ]))
    go_ret
    exact Keep.intro ⟨by rw [hdec.out]; rfl, hX⟩
set_option maxRecDepth 100000 in
set_option maxHeartbeats 800000 in
theorem refRight_any (t : TxD) (w : World) : Calls Try.prog 15 #[.agg #[.int .i64 t.id, .int .i64 t.fee]] w fun e w' => e = .returned (.bool (decide t.Right)) ∧ Ext w w' := by
  refine calls_keep ?_
  by_cases h1 : 0 < t.id
  · have t1 : decide (0 < t.id) = true := by simpa using h1
    by_cases h2 : t.id ≤ 1000000
    · have t2 : decide (t.id ≤ 1000000) = true := by simpa using h2
      by_cases h3 : 0 ≤ t.fee
      · have t3 : decide (0 ≤ t.fee) = true := by simpa using h3
        by_cases h4 : t.fee ≤ 1000
        · have t4 : decide (t.fee ≤ 1000) = true := by simpa using h4
          have hdec := hide_ (show decide t.Right = true from decide_eq_true ⟨by omega, h2, h3, h4⟩)
          clear h1 h2 h3 h4
          go_enter Try.func15, Try.ntmps15
          go_wp2_with ((first
            | (refine w_box _ [.int .i64 t.id, .int .i64 t.fee] rfl rfl rfl rfl ?_; intro g1 w1 hg1 hX f1)
            | ((try refine w_yes _ _ _ rfl rfl rfl ?_); refine w_field Try.stTx _ _ _ rfl rfl rfl (by omega) ?_)
            | ((try refine w_yes _ _ _ rfl rfl rfl ?_); refine w_fload _ rfl rfl rfl f1 rfl (agg_of (by kernel_rfl)) ?_)
            | fail) <;> (try simp only [Act.put, List.setIfInBounds_toArray, List.set_cons_zero, List.set_cons_succ]))
          go_ret
          exact Keep.intro ⟨by rw [hdec.out]; rfl, hX⟩
        · have t4 : decide (t.fee ≤ 1000) = false := by simpa using h4
          have hdec := hide_ (show decide t.Right = false from decide_eq_false (fun h => h4 (by have := h.2.2.2; omega)))
          clear h1 h2 h3 h4
          go_enter Try.func15, Try.ntmps15
          go_wp2_with ((first
            | (refine w_box _ [.int .i64 t.id, .int .i64 t.fee] rfl rfl rfl rfl ?_; intro g1 w1 hg1 hX f1)
            | ((try refine w_yes _ _ _ rfl rfl rfl ?_); refine w_field Try.stTx _ _ _ rfl rfl rfl (by omega) ?_)
            | ((try refine w_yes _ _ _ rfl rfl rfl ?_); refine w_fload _ rfl rfl rfl f1 rfl (agg_of (by kernel_rfl)) ?_)
            | fail) <;> (try simp only [Act.put, List.setIfInBounds_toArray, List.set_cons_zero, List.set_cons_succ]))
          go_ret
          exact Keep.intro ⟨by rw [hdec.out]; rfl, hX⟩
      · have t3 : decide (0 ≤ t.fee) = false := by simpa using h3
        have hdec := hide_ (show decide t.Right = false from decide_eq_false (fun h => h3 (by have := h.2.2.1; omega)))
        clear h1 h2 h3
        go_enter Try.func15, Try.ntmps15
        go_wp2_with ((first
          | (refine w_box _ [.int .i64 t.id, .int .i64 t.fee] rfl rfl rfl rfl ?_; intro g1 w1 hg1 hX f1)
          | ((try refine w_yes _ _ _ rfl rfl rfl ?_); refine w_field Try.stTx _ _ _ rfl rfl rfl (by omega) ?_)
          | ((try refine w_yes _ _ _ rfl rfl rfl ?_); refine w_fload _ rfl rfl rfl f1 rfl (agg_of (by kernel_rfl)) ?_)
          | fail) <;> (try simp only [Act.put, List.setIfInBounds_toArray, List.set_cons_zero, List.set_cons_succ]))
        go_ret
        exact Keep.intro ⟨by rw [hdec.out]; rfl, hX⟩
    · have t2 : decide (t.id ≤ 1000000) = false := by simpa using h2
      have hdec := hide_ (show decide t.Right = false from decide_eq_false (fun h => h2 (by have := h.2.1; omega)))
      clear h1 h2
      go_enter Try.func15, Try.ntmps15
      go_wp2_with ((first
        | (refine w_box _ [.int .i64 t.id, .int .i64 t.fee] rfl rfl rfl rfl ?_; intro g1 w1 hg1 hX f1)
        | ((try refine w_yes _ _ _ rfl rfl rfl ?_); refine w_field Try.stTx _ _ _ rfl rfl rfl (by omega) ?_)
        | ((try refine w_yes _ _ _ rfl rfl rfl ?_); refine w_fload _ rfl rfl rfl f1 rfl (agg_of (by kernel_rfl)) ?_)
        | fail) <;> (try simp only [Act.put, List.setIfInBounds_toArray, List.set_cons_zero, List.set_cons_succ]))
      go_ret
      exact Keep.intro ⟨by rw [hdec.out]; rfl, hX⟩
  · have t1 : decide (0 < t.id) = false := by simpa using h1
    have hdec := hide_ (show decide t.Right = false from decide_eq_false (fun h => h1 (by have := h.1; omega)))
    clear h1
    go_enter Try.func15, Try.ntmps15
    go_wp2_with ((first
      | (refine w_box _ [.int .i64 t.id, .int .i64 t.fee] rfl rfl rfl rfl ?_; intro g1 w1 hg1 hX f1)
      | ((try refine w_yes _ _ _ rfl rfl rfl ?_); refine w_field Try.stTx _ _ _ rfl rfl rfl (by omega) ?_)
      | ((try refine w_yes _ _ _ rfl rfl rfl ?_); refine w_fload _ rfl rfl rfl f1 rfl (agg_of (by kernel_rfl)) ?_)
      | fail) <;> (try simp only [Act.put, List.setIfInBounds_toArray, List.set_cons_zero, List.set_cons_succ]))
    go_ret
    exact Keep.intro ⟨by rw [hdec.out]; rfl, hX⟩
end Go.Proofs.Ytabbgnlabiakoaa
