/- The contracts of Bytes, of package tx and of the document's. -/
import Derived.Test.YtabbgnlabiakoaaTx1
namespace Go.Proofs.Ytabbgnlabiakoaa
open Go.RowKit

def tB (t : TxD) : List Nat := if t.Right then nuL t.nums else []
def tE (t : TxD) : Nat := if t.Right then 0 else 61
theorem TxD.one (d : TxD) : ∀ u ∈ [Value.int .i64 d.id, .int .i64 d.fee], u.oneCell' = true := by
  intro u hu; simp at hu; rcases hu with rfl | rfl <;> rfl
theorem Rdb.nuOk {l : List Int} (h : Rdb l) (hl : l.length ≤ 64) : NuOk l := ⟨hl, fun x hx => (h x hx).1⟩
theorem Rdb.i64 {l : List Int} (h : Rdb l) : I64s l := fun x hx => by have := h x hx; omega
theorem Nums_yes {w : World} {v : Value} {l : List Int} (h : Rdb l) (hl : l.length ≤ 64) (hv : Ints w v l) : Calls Try.prog 25 #[v] w fun e w' => ∃ v', e = .returned (.tuple #[v', .int .i64 0]) ∧ OwnB w.heap.size w' v' (nuL l) ∧ Ext w w' := by
  refine (Nums_any v l w h.i64 hv).mono ?_
  rintro e w' ⟨v', rfl, h1, h2⟩
  exact ⟨v', by rw [nuErr, if_pos (h.nuOk hl)]; rfl, by rw [nuB, if_pos (h.nuOk hl)] at h1; exact h1, h2⟩
theorem refNums_yes {w : World} {v : Value} {l : List Int} (h : Rdb l) (hl : l.length ≤ 64) (hv : Ints w v l) : Calls Try.prog 26 #[v] w fun e w' => ∃ v', e = .returned (.tuple #[v', .int .i64 0]) ∧ OwnB w.heap.size w' v' (nuL l) ∧ Ext w w' := by
  refine (refNums_any v l w h.i64 hv).mono ?_
  rintro e w' ⟨v', rfl, h1, h2⟩
  exact ⟨v', by rw [nuErr, if_pos (h.nuOk hl)]; rfl, by rw [nuB, if_pos (h.nuOk hl)] at h1; exact h1, h2⟩

set_option maxRecDepth 100000 in
set_option maxHeartbeats 800000 in
theorem TBytes_any (t : TxD) (w : World) : Calls Try.prog 12 #[.agg #[.int .i64 t.id, .int .i64 t.fee]] w fun e w' => ∃ v', e = .returned (.tuple #[v', .int .i64 (tE t : Nat)]) ∧ OwnB w.heap.size w' v' (tB t) ∧ Ext w w' := by
  refine calls_keep ?_
  by_cases h : t.Right
  · have hdec := hide_ (show decide t.Right = true from decide_eq_true h)
    have hr := hide_ h.rdb
    have e1 := hide_ (show tE t = 0 from if_pos h)
    have e2 := hide_ (show tB t = nuL t.nums from if_pos h)
    clear h
    go_enter Try.func12, Try.ntmps12
    go_wp2_with ((first
      | (refine w_box _ [.int .i64 t.id, .int .i64 t.fee] rfl rfl rfl rfl ?_; intro g1 w1 hg1 hX f1)
      | (go_at_call 14; refine (Right_any t _).mono ?_; rintro e w2 ⟨rfl, hx2⟩; rw [hdec.out]; replace f1 := f1.ext hx2; replace hX := hX.trans hx2; clear hx2)
      | (go_at_call 25; refine (Nums_yes hr.out (by simp [TxD.nums]) o2.ints).mono ?_; rintro e w4 ⟨v3, rfl, o3, hx4⟩; replace o3 := o3.mono hX.size; replace hX := hX.trans hx4; clear o2 hx4)
      | (refine w_aload Try.stTx _ rfl rfl rfl f1 rfl ?_)
      | (refine w_new Try.elI (i64s t.nums) rfl rfl rfl (i64s_cells _) rfl (by omega) ?_; intro v2 w3 hx3 o2; replace o2 : OwnI _ w3 v2 t.nums := o2; replace f1 := f1.ext hx3; replace hX := hX.trans hx3; clear hx3)
      | (refine w_field Try.stTx _ _ _ rfl rfl rfl (by omega) ?_)
      | (refine w_fload _ rfl rfl rfl f1 rfl (agg_of (by kernel_rfl)) ?_)
      | fail) <;> (try simp only [Act.put, List.setIfInBounds_toArray, List.set_cons_zero, List.set_cons_succ]))
    go_ret2
    exact Keep.intro ⟨_, by rw [e1.out]; rfl, by rw [e2.out]; exact o3, hX⟩
  · have hdec := hide_ (show decide t.Right = false from decide_eq_false h)
    have e1 := hide_ (show tE t = 61 from if_neg h)
    have e2 := hide_ (show tB t = [] from if_neg h)
    clear h
    go_enter Try.func12, Try.ntmps12
    go_wp2_with ((first
      | (refine w_box _ [.int .i64 t.id, .int .i64 t.fee] rfl rfl rfl rfl ?_; intro g1 w1 hg1 hX f1)
      | (go_at_call 14; refine (Right_any t _).mono ?_; rintro e w2 ⟨rfl, hx2⟩; rw [hdec.out]; replace f1 := f1.ext hx2; replace hX := hX.trans hx2; clear hx2)
      | (refine w_aload Try.stTx _ rfl rfl rfl f1 rfl ?_)
      | fail) <;> (try simp only [Act.put, List.setIfInBounds_toArray, List.set_cons_zero, List.set_cons_succ]))
    go_ret2
    exact Keep.intro ⟨_, by rw [e1.out]; rfl, by rw [e2.out]; exact OwnB.nil _ _, hX⟩

set_option maxRecDepth 100000 in
set_option maxHeartbeats 800000 in
theorem refTBytes_any (t : TxD) (w : World) : Calls Try.prog 13 #[.agg #[.int .i64 t.id, .int .i64 t.fee]] w fun e w' => ∃ v', e = .returned (.tuple #[v', .int .i64 (tE t : Nat)]) ∧ OwnB w.heap.size w' v' (tB t) ∧ Ext w w' := by
  refine calls_keep ?_
  by_cases h : t.Right
  · have hdec := hide_ (show decide t.Right = true from decide_eq_true h)
    have hr := hide_ h.rdb
    have e1 := hide_ (show tE t = 0 from if_pos h)
    have e2 := hide_ (show tB t = nuL t.nums from if_pos h)
    clear h
    go_enter Try.func13, Try.ntmps13
    go_wp2_with ((first
      | (refine w_box _ [.int .i64 t.id, .int .i64 t.fee] rfl rfl rfl rfl ?_; intro g1 w1 hg1 hX f1)
      | (go_at_call 15; refine (refRight_any t _).mono ?_; rintro e w2 ⟨rfl, hx2⟩; rw [hdec.out]; replace f1 := f1.ext hx2; replace hX := hX.trans hx2; clear hx2)
      | (go_at_call 26; refine (refNums_yes hr.out (by simp [TxD.nums]) o2.ints).mono ?_; rintro e w4 ⟨v3, rfl, o3, hx4⟩; replace o3 := o3.mono hX.size; replace hX := hX.trans hx4; clear o2 hx4)
      | (refine w_aload Try.stTx _ rfl rfl rfl f1 rfl ?_)
      | (refine w_new Try.elI (i64s t.nums) rfl rfl rfl (i64s_cells _) rfl (by omega) ?_; intro v2 w3 hx3 o2; replace o2 : OwnI _ w3 v2 t.nums := o2; replace f1 := f1.ext hx3; replace hX := hX.trans hx3; clear hx3)
      | (refine w_field Try.stTx _ _ _ rfl rfl rfl (by omega) ?_)
      | (refine w_fload _ rfl rfl rfl f1 rfl (agg_of (by kernel_rfl)) ?_)
      | fail) <;> (try simp only [Act.put, List.setIfInBounds_toArray, List.set_cons_zero, List.set_cons_succ]))
    go_ret2
    exact Keep.intro ⟨_, by rw [e1.out]; rfl, by rw [e2.out]; exact o3, hX⟩
  · have hdec := hide_ (show decide t.Right = false from decide_eq_false h)
    have e1 := hide_ (show tE t = 61 from if_neg h)
    have e2 := hide_ (show tB t = [] from if_neg h)
    clear h
    go_enter Try.func13, Try.ntmps13
    go_wp2_with ((first
      | (refine w_box _ [.int .i64 t.id, .int .i64 t.fee] rfl rfl rfl rfl ?_; intro g1 w1 hg1 hX f1)
      | (go_at_call 15; refine (refRight_any t _).mono ?_; rintro e w2 ⟨rfl, hx2⟩; rw [hdec.out]; replace f1 := f1.ext hx2; replace hX := hX.trans hx2; clear hx2)
      | (refine w_aload Try.stTx _ rfl rfl rfl f1 rfl ?_)
      | fail) <;> (try simp only [Act.put, List.setIfInBounds_toArray, List.set_cons_zero, List.set_cons_succ]))
    go_ret2
    exact Keep.intro ⟨_, by rw [e1.out]; rfl, by rw [e2.out]; exact OwnB.nil _ _, hX⟩

theorem TBytes_yes {t : TxD} (h : t.Right) (w : World) : Calls Try.prog 12 #[.agg #[.int .i64 t.id, .int .i64 t.fee]] w fun e w' => ∃ v', e = .returned (.tuple #[v', .int .i64 0]) ∧ OwnB w.heap.size w' v' (nuL t.nums) ∧ Ext w w' := by
  refine (TBytes_any t w).mono ?_
  rintro e w' ⟨v', rfl, h1, h2⟩
  exact ⟨v', by rw [tE, if_pos h]; rfl, by rw [tB, if_pos h] at h1; exact h1, h2⟩
theorem TBytes_no {t : TxD} (h : ¬ t.Right) (w : World) : Calls Try.prog 12 #[.agg #[.int .i64 t.id, .int .i64 t.fee]] w fun e w' => ∃ v', e = .returned (.tuple #[v', .int .i64 61]) ∧ Ext w w' := by
  refine (TBytes_any t w).mono ?_
  rintro e w' ⟨v', rfl, _, h2⟩
  exact ⟨v', by rw [tE, if_neg h]; rfl, h2⟩
end Go.Proofs.Ytabbgnlabiakoaa
