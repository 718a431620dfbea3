/- The contract of Copy of package block. -/
import Derived.Test.YtdacclcaopmalaaBk1
namespace Go.Proofs.Ytdacclcaopmalaa
set_option maxRecDepth 100000
open Go.RowKit

/-! ### A copy -/
theorem recs_rows {w : World} {v : Value} {l : List TxD} (h : Recs 2 TxR w v l) : SlS w v 2 (l.map TxD.row) ∧ ∀ t ∈ l, t.Raw := by
  obtain ⟨rows, hs, hl, hR⟩ := id h
  have e : rows = l.map TxD.row := by
    refine List.ext_getElem (by simpa using hl) fun k h1 h2 => ?_
    obtain ⟨h3, _⟩ := hR k _ _ (List.getElem?_eq_getElem h1) (List.getElem?_eq_getElem (by omega))
    rw [h3, List.getElem_map]; rfl
  exact ⟨e ▸ hs, recs_ok_of h fun _ _ _ h => h.2⟩
theorem row_one {l : List TxD} : ∀ y ∈ l.map TxD.row, ∀ u ∈ y, u.oneCell' = true := by
  intro y hy
  obtain ⟨t, _, rfl⟩ := List.mem_map.1 hy
  exact t.one

set_option maxRecDepth 100000 in
set_option maxHeartbeats 1600000 in
theorem BCopy_any {w : World} {u : Value} {b : BlkD} (hu : Recs 2 TxR w u b.txs) (hlen : b.txs.length * 16 ≤ 140737488355328) : Calls Try.prog 24 #[.agg #[.int .i64 b.slot, .int .i64 b.miner, .int .i64 b.var, .int .i64 b.parent, u]] w fun e w' => ∃ u', e = .returned (.agg #[.int .i64 b.slot, .int .i64 b.miner, .int .i64 b.var, .int .i64 b.parent, u']) ∧ OwnT w.heap.size w' u' b.txs ∧ Ext w w' := by
  refine calls_keep ?_
  have hs := hide_ (recs_rows hu).1
  have hraw := hide_ (recs_rows hu).2
  have hone := hide_ (row_one (l := b.txs))
  have hbig := hide_ (show (([] : List (List Value)).length + (b.txs.map TxD.row).length) * 16 ≤ 140737488355328 from by simp; omega)
  clear hlen
  go_enter Try.func24, Try.ntmps24
  go_wp2_with ((first
    | ((with_reducible refine at_box ?_); refine w_box _ [.int .i64 b.slot, .int .i64 b.miner, .int .i64 b.var, .int .i64 b.parent, u] rfl rfl rfl rfl ?_; intro g1 w1 hg1 hX f1)
    | ((with_reducible refine at_alloc ?_); refine w_alloc Try.stBlk rfl rfl ?_; intro g2 w2 hg2 hx f2; have hg2' := Nat.le_trans hX.size hg2; have n12 : ¬ g1 = g2 := (by have := f1.lt; omega); replace f1 := f1.ext hx; replace hX := hX.trans hx; clear hx)
    | ((with_reducible refine at_bi ?_); refine w_napp0 Try.elTxN _ _ rfl rfl rfl rfl (RowN.nil (F := fun _ => False) _ _ _) (hs.out.ext hX) hone.out hbig.out ?_; intro v3 w3 hm hn; have o3 := OwnT.of (lo := w.heap.size) (l := b.txs) hn hraw.out (fun k hk => hk.elim False.elim (fun h => Nat.le_trans hX.size h.1)); have n13 : ∀ k, v3.ownBlock = some k → ¬ k = g1 := fun k hk e => (hn.inF k hk).elim False.elim (fun h => by have := f1.lt; omega); have n23 : ∀ k, v3.ownBlock = some k → ¬ k = g2 := fun k hk e => (hn.inF k hk).elim False.elim (fun h => by have := f2.lt; omega); have hx := hm.after (Ext.refl _) (fun k hk => hk.elim); replace f1 := f1.ext hx; replace f2 := f2.ext hx; replace hX := hX.trans hx; clear hx hm hn)
    | ((with_reducible refine at_store ?_); refine w_fstore (u := v3) _ _ rfl rfl rfl rfl rfl f1 (by simp) (oneCell_cells o3.recs.one') o3.recs.one' (by kernel_rfl) ?_; intro w4 hm f1'; replace f1 : Fs w4 g1 [.int .i64 b.slot, .int .i64 b.miner, .int .i64 b.var, .int .i64 b.parent, v3] := f1'; replace f2 := f2.mod hm (fun e => n12 e.symm); replace o3 := o3.mod hm n13; replace hX := hm.after hX (fun i e => e ▸ hg1); clear hm f1')
    | ((with_reducible refine at_store ?_); refine w_astore Try.stBlk (us := [.int .i64 b.slot, .int .i64 b.miner, .int .i64 b.var, .int .i64 b.parent, v3]) _ _ rfl rfl rfl rfl rfl f2 rfl rfl (blk_one o3.recs.one') ?_; intro w5 hm f2'; replace f2 := f2'; replace o3 := o3.mod hm n23; replace hX := hm.after hX (fun i e => e ▸ hg2'); clear hm f2')
    | ((with_reducible refine at_field ?_); (try refine w_yes _ _ _ rfl rfl rfl ?_); refine w_field Try.stBlk _ _ _ rfl rfl rfl (by omega) ?_)
    | ((with_reducible refine at_load ?_); (try refine w_yes _ _ _ rfl rfl rfl ?_); refine w_aload Try.stBlk _ rfl rfl rfl f1 rfl ?_)
    | ((with_reducible refine at_load ?_); (try refine w_yes _ _ _ rfl rfl rfl ?_); refine w_fload _ rfl rfl rfl f1 rfl (agg_of (by kernel_rfl)) ?_)
    | fail) <;> (try simp only [Act.put, List.setIfInBounds_toArray, List.set_cons_zero, List.set_cons_succ]))
  exact bodyPost_ret (ret_one Try.stBlk rfl rfl f2 rfl) rfl (Keep.intro ⟨v3, rfl, o3, hX⟩)
end Go.Proofs.Ytdacclcaopmalaa
