/- The contracts of Same, Copy and Bytes of package block, and of the document's; the chapter's example. -/
import Derived.Test.YtdacclcaopmalaaBk0
namespace Go.Proofs.Ytdacclcaopmalaa
set_option maxRecDepth 100000
open Go.RowKit

def BlkD.same (a b : BlkD) : Bool := a.slot == b.slot && a.miner == b.miner && a.var == b.var && a.parent == b.parent && decide (a.txs = b.txs)
theorem BlkD.same_iff {a b : BlkD} : a.same b = true ↔ a = b := by
  cases a; cases b; simp [BlkD.same, and_assoc]
theorem BlkD.same_self (a : BlkD) : a.same a = true := BlkD.same_iff.2 rfl
theorem Recs.one' {α : Type} {n : Nat} {R : World → List Value → α → Prop} {w : World} {v : Value} {l : List α} (h : Recs n R w v l) : v.oneCell' = true := by
  obtain ⟨_, ⟨A, c, rfl, _⟩, _⟩ := h; rfl
theorem blk_one {a b c d : Int} {v : Value} (h : v.oneCell' = true) : ∀ u ∈ [Value.int .i64 a, .int .i64 b, .int .i64 c, .int .i64 d, v], u.oneCell' = true := by
  intro u hu; simp at hu; rcases hu with rfl | rfl | rfl | rfl | rfl
  · rfl
  · rfl
  · rfl
  · rfl
  · exact h
set_option maxRecDepth 100000 in
set_option maxHeartbeats 1600000 in
theorem refBSame_any {w : World} {u u2 : Value} {b b2 : BlkD} (h1 : Recs 2 TxR w u b.txs) (h2 : Recs 2 TxR w u2 b2.txs) : Calls Try.prog 37 #[.agg #[.int .i64 b.slot, .int .i64 b.miner, .int .i64 b.var, .int .i64 b.parent, u], .agg #[.int .i64 b2.slot, .int .i64 b2.miner, .int .i64 b2.var, .int .i64 b2.parent, u2]] w fun e w' => e = .returned (.bool (b.same b2)) ∧ Ext w w' := by
  refine calls_keep ?_
  replace h1 := hide_ h1
  replace h2 := hide_ h2
  cases c0 : (b.slot == b2.slot)
  · have hdec := hide_ (show b.same b2 = false from by simp [BlkD.same, c0])
    go_enter Try.func37, Try.ntmps37
    go_wp2_with ((first
      | ((with_reducible refine at_box ?_); refine w_box (.tmp 0) [.int .i64 b.slot, .int .i64 b.miner, .int .i64 b.var, .int .i64 b.parent, u] rfl rfl rfl rfl ?_; intro g1 w1 hg1 hX f1)
      | ((with_reducible refine at_box ?_); refine w_box (.tmp 1) [.int .i64 b2.slot, .int .i64 b2.miner, .int .i64 b2.var, .int .i64 b2.parent, u2] rfl rfl rfl rfl ?_; intro g2 w2 hg2 hx f2; replace f1 := f1.ext hx; replace hX := hX.trans hx; clear hx)
      | ((with_reducible refine at_field ?_); (try refine w_yes _ _ _ rfl rfl rfl ?_); refine w_field Try.stBlk _ _ _ rfl rfl rfl (by omega) ?_)
      | ((with_reducible refine at_load ?_); (try refine w_yes _ _ _ rfl rfl rfl ?_); refine w_fload _ rfl rfl rfl f1 rfl (agg_of (by kernel_rfl)) ?_)
      | ((with_reducible refine at_load ?_); (try refine w_yes _ _ _ rfl rfl rfl ?_); refine w_fload _ rfl rfl rfl f2 rfl (agg_of (by kernel_rfl)) ?_)
      | fail) <;> (try simp only [Act.put, List.setIfInBounds_toArray, List.set_cons_zero, List.set_cons_succ]))
    go_ret
    exact Keep.intro ⟨by rw [hdec.out]; rfl, hX⟩
  cases c1 : (b.miner == b2.miner)
  · have hdec := hide_ (show b.same b2 = false from by simp [BlkD.same, c1])
    go_enter Try.func37, Try.ntmps37
    go_wp2_with ((first
      | ((with_reducible refine at_box ?_); refine w_box (.tmp 0) [.int .i64 b.slot, .int .i64 b.miner, .int .i64 b.var, .int .i64 b.parent, u] rfl rfl rfl rfl ?_; intro g1 w1 hg1 hX f1)
      | ((with_reducible refine at_box ?_); refine w_box (.tmp 1) [.int .i64 b2.slot, .int .i64 b2.miner, .int .i64 b2.var, .int .i64 b2.parent, u2] rfl rfl rfl rfl ?_; intro g2 w2 hg2 hx f2; replace f1 := f1.ext hx; replace hX := hX.trans hx; clear hx)
      | ((with_reducible refine at_field ?_); (try refine w_yes _ _ _ rfl rfl rfl ?_); refine w_field Try.stBlk _ _ _ rfl rfl rfl (by omega) ?_)
      | ((with_reducible refine at_load ?_); (try refine w_yes _ _ _ rfl rfl rfl ?_); refine w_fload _ rfl rfl rfl f1 rfl (agg_of (by kernel_rfl)) ?_)
      | ((with_reducible refine at_load ?_); (try refine w_yes _ _ _ rfl rfl rfl ?_); refine w_fload _ rfl rfl rfl f2 rfl (agg_of (by kernel_rfl)) ?_)
      | fail) <;> (try simp only [Act.put, List.setIfInBounds_toArray, List.set_cons_zero, List.set_cons_succ]))
    go_ret
    exact Keep.intro ⟨by rw [hdec.out]; rfl, hX⟩
  cases c2 : (b.var == b2.var)
  · have hdec := hide_ (show b.same b2 = false from by simp [BlkD.same, c2])
    go_enter Try.func37, Try.ntmps37
    go_wp2_with ((first
      | ((with_reducible refine at_box ?_); refine w_box (.tmp 0) [.int .i64 b.slot, .int .i64 b.miner, .int .i64 b.var, .int .i64 b.parent, u] rfl rfl rfl rfl ?_; intro g1 w1 hg1 hX f1)
      | ((with_reducible refine at_box ?_); refine w_box (.tmp 1) [.int .i64 b2.slot, .int .i64 b2.miner, .int .i64 b2.var, .int .i64 b2.parent, u2] rfl rfl rfl rfl ?_; intro g2 w2 hg2 hx f2; replace f1 := f1.ext hx; replace hX := hX.trans hx; clear hx)
      | ((with_reducible refine at_field ?_); (try refine w_yes _ _ _ rfl rfl rfl ?_); refine w_field Try.stBlk _ _ _ rfl rfl rfl (by omega) ?_)
      | ((with_reducible refine at_load ?_); (try refine w_yes _ _ _ rfl rfl rfl ?_); refine w_fload _ rfl rfl rfl f1 rfl (agg_of (by kernel_rfl)) ?_)
      | ((with_reducible refine at_load ?_); (try refine w_yes _ _ _ rfl rfl rfl ?_); refine w_fload _ rfl rfl rfl f2 rfl (agg_of (by kernel_rfl)) ?_)
      | fail) <;> (try simp only [Act.put, List.setIfInBounds_toArray, List.set_cons_zero, List.set_cons_succ]))
    go_ret
    exact Keep.intro ⟨by rw [hdec.out]; rfl, hX⟩
  cases c3 : (b.parent == b2.parent)
  · have hdec := hide_ (show b.same b2 = false from by simp [BlkD.same, c3])
    go_enter Try.func37, Try.ntmps37
    go_wp2_with ((first
      | ((with_reducible refine at_box ?_); refine w_box (.tmp 0) [.int .i64 b.slot, .int .i64 b.miner, .int .i64 b.var, .int .i64 b.parent, u] rfl rfl rfl rfl ?_; intro g1 w1 hg1 hX f1)
      | ((with_reducible refine at_box ?_); refine w_box (.tmp 1) [.int .i64 b2.slot, .int .i64 b2.miner, .int .i64 b2.var, .int .i64 b2.parent, u2] rfl rfl rfl rfl ?_; intro g2 w2 hg2 hx f2; replace f1 := f1.ext hx; replace hX := hX.trans hx; clear hx)
      | ((with_reducible refine at_field ?_); (try refine w_yes _ _ _ rfl rfl rfl ?_); refine w_field Try.stBlk _ _ _ rfl rfl rfl (by omega) ?_)
      | ((with_reducible refine at_load ?_); (try refine w_yes _ _ _ rfl rfl rfl ?_); refine w_fload _ rfl rfl rfl f1 rfl (agg_of (by kernel_rfl)) ?_)
      | ((with_reducible refine at_load ?_); (try refine w_yes _ _ _ rfl rfl rfl ?_); refine w_fload _ rfl rfl rfl f2 rfl (agg_of (by kernel_rfl)) ?_)
      | fail) <;> (try simp only [Act.put, List.setIfInBounds_toArray, List.set_cons_zero, List.set_cons_succ]))
    go_ret
    exact Keep.intro ⟨by rw [hdec.out]; rfl, hX⟩
  obtain ⟨q, hq0⟩ : ∃ q, decide (b.txs = b2.txs) = q := ⟨_, rfl⟩
  have hdec := hide_ (show b.same b2 = q from by simp [BlkD.same, c0, c1, c2, c3, hq0])
  have hq := hide_ hq0
  clear hq0
  go_enter Try.func37, Try.ntmps37
  go_wp2_with ((first
    | ((with_reducible refine at_box ?_); refine w_box (.tmp 0) [.int .i64 b.slot, .int .i64 b.miner, .int .i64 b.var, .int .i64 b.parent, u] rfl rfl rfl rfl ?_; intro g1 w1 hg1 hX f1)
    | ((with_reducible refine at_box ?_); refine w_box (.tmp 1) [.int .i64 b2.slot, .int .i64 b2.miner, .int .i64 b2.var, .int .i64 b2.parent, u2] rfl rfl rfl rfl ?_; intro g2 w2 hg2 hx f2; replace f1 := f1.ext hx; replace hX := hX.trans hx; clear hx)
    | (go_at_call 17; refine (Same_any (a := u) (b := u2) (h1.out.ext TxR.stays hX) (h2.out.ext TxR.stays hX)).mono ?_; rintro e w3 ⟨rfl, hx⟩; rw [hq.out]; replace hX := hX.trans hx; clear hx)
    | ((with_reducible refine at_field ?_); (try refine w_yes _ _ _ rfl rfl rfl ?_); refine w_field Try.stBlk _ _ _ rfl rfl rfl (by omega) ?_)
    | ((with_reducible refine at_load ?_); (try refine w_yes _ _ _ rfl rfl rfl ?_); refine w_fload _ rfl rfl rfl f1 rfl (agg_of (by kernel_rfl)) ?_)
    | ((with_reducible refine at_load ?_); (try refine w_yes _ _ _ rfl rfl rfl ?_); refine w_fload _ rfl rfl rfl f2 rfl (agg_of (by kernel_rfl)) ?_)
    | fail) <;> (try simp only [Act.put, List.setIfInBounds_toArray, List.set_cons_zero, List.set_cons_succ]))
  go_ret
  exact Keep.intro ⟨by rw [hdec.out]; rfl, hX⟩

theorem BlkD.Right.rdb4 {b : BlkD} (h : b.Right) : Rdb [b.slot, b.miner, b.var, b.parent] := fun x hx => h.rdb x (List.mem_append_left _ hx)
end Go.Proofs.Ytdacclcaopmalaa
