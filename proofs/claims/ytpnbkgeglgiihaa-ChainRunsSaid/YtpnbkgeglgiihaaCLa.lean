/- The chapter's example. -/
import Derived.Test.YtpnbkgeglgiihaaCHG
import Derived.Test.YtpnbkgeglgiihaaSame
namespace Go.Proofs.Ytpnbkgeglgiihaa
set_option maxRecDepth 100000
open Go.RowKit

/-- What is a chain's. -/
def CQ (H : Nat → Prop) (q : Nat) : Nat → Prop := fun k => H k ∨ k = q
section
variable {W w w' : World} {H H' : Nat → Prop} {q : Nat}
theorem Out.ch (h : Out W (CQ H q) w) (u : Upd H H' w w') : Out W (CQ H' q) w' :=
  h.upd ⟨u.mod.mono fun _ _ e => .inl e, fun k hk => hk.elim (fun e => (u.sub k e).imp_left .inl) fun e => .inl (.inr e)⟩
theorem Out.nx (h : Out W (CQ H q) w) (hm : Mod (fun k => k = q) w w') : Out W (CQ H q) w' := h.other hm fun k e => h.new k (.inr e)
end
def t5 : TxD := ⟨5, 0⟩
def t6 : TxD := ⟨6, 0⟩
def cOne : BlkD := ⟨1, 0, 0, 0, [t5]⟩
def cTwo : BlkD := ⟨2, 0, 0, 65536, [t6]⟩
theorem tk1T : tkT [1, 1] 2 ⟨[], []⟩ cOne = ⟨[cOne], []⟩ := by kernel_rfl
theorem tk1E : tkE [1, 1] 2 ⟨[], []⟩ cOne = 0 := by kernel_rfl
theorem mk2 : mkD [1, 1] 2 0 [cOne] [t5, t6] = cTwo := by kernel_rfl
theorem mk2k : mkOk [1, 1] 2 0 [cOne] [t5, t6] = true := by kernel_rfl
theorem tk2T : tkT [1, 1] 2 ⟨[cOne], []⟩ cTwo = ⟨[cOne, cTwo], []⟩ := by kernel_rfl
theorem tk2E : tkE [1, 1] 2 ⟨[cOne], []⟩ cTwo = 0 := by kernel_rfl
theorem tip12 : TrS.tip [cOne, cTwo] = 131072 := by kernel_rfl
theorem bk12 : backN (TrS.path [cOne, cTwo] (TrS.tip [cOne, cTwo])) 1 = 65536 := by kernel_rfl
theorem raw1 : cOne.Raw := ⟨by simp [cOne], by simp [cOne], by simp [cOne], by simp [cOne], by simp [cOne, t5]; exact ⟨by simp, by simp⟩⟩
theorem raw2 : cTwo.Raw := ⟨by simp [cTwo], by simp [cTwo], by simp [cTwo], by simp [cTwo], by simp [cTwo, t6]; exact ⟨by simp, by simp⟩⟩
theorem rawT5 : t5.Raw := ⟨by simp [t5], by simp [t5]⟩
theorem rawT6 : t6.Raw := ⟨by simp [t6], by simp [t6]⟩
theorem max02 : max (0 : Int) 2 = 2 := rfl

set_option maxRecDepth 100000 in
set_option maxHeartbeats 3200000 in
theorem chainAlive_any (W : World) : Calls Try.prog 10 #[] W fun e w' => e = .returned (.bool true) ∧ Ext W w' := by
  refine calls_keep ?_
  have tokA : True := trivial
  have tokB : True := trivial
  have hD := hide_ (show DrOk [1, 1] from by decide)
  go_enter Try.func10, Try.ntmps10
  go_wp2_with ((first
    | (go_at_call 8; refine (CNew_any (deep := 1) i8 hD.out ⟨by omega, by omega⟩).mono ?_; rintro e w1 ⟨q, p, dv, H, rfl, hC, hx, hq, hH⟩; have hO : Out W (CQ H q) w1 := ⟨hX.trans hx, fun k hk => hk.elim (fun e => Nat.le_trans hX.size (hH k e)) (fun e => e ▸ Nat.le_trans hX.size hq)⟩; clear hX hx hq hH i8)
    | (go_at_call 23; refine (CTree_any hC).mono ?_; rintro e w1 ⟨rfl, hx⟩; replace hC := hC.ext hx; replace hO := hO.extend hx; clear hx)
    | (go_at_call 14; refine (CNext_any (n := 2) hC ⟨by omega, by omega⟩).mono ?_; rintro e w1 ⟨rfl, hC2, hm⟩; rw [max02] at hC2; replace hC := hC2; replace hO := hO.nx hm; clear hC2 hm)
    | (go_at_call 9; have _t := tokA; refine (CTake_any (b := cOne) hC (by simp) o22.recs raw1).mono ?_; rintro e w1 ⟨v2, H2, rfl, _, hC2, hU⟩; rw [tk1T] at hC2; rw [tk1E]; replace hC := hC2; replace hO := hO.ch hU; clear hC2 hU tokA o22)
    | (go_at_call 16; refine (CMake_any (me := 0) hC o31.recs).mono ?_; rintro e w1 ⟨u, rfl, o4, hx⟩; rw [mk2] at o4; rw [mk2, mk2k]; have hno4 := hide_ (show ∀ k, u.ownBlock = some k → ¬ H2 k from fun k hk h => by have h1 := o4.new k hk; have h2 := hC.lt k h; omega); have one4 := blk_one (a := cTwo.slot) (b := cTwo.miner) (c := cTwo.var) (d := cTwo.parent) o4.recs.one'; replace hC := hC.ext hx; replace hO := hO.extend hx; clear hx o31)
    | (go_at_call 9; have _t := tokB; refine (CTake_any (b := cTwo) hC (by simp) o4.recs raw2).mono ?_; rintro e w1 ⟨v6, H3, rfl, _, hC2, hU⟩; rw [tk2T] at hC2; rw [tk2E]; replace f4 := f4.mod hU.mod hn4.out; replace o4 := o4.mod hU.mod hno4.out; replace hC := hC2; replace hO := hO.ch hU; clear hC2 hU tokB)
    | (go_at_call 11; refine (CConf_any hC).mono ?_; rintro e w1 ⟨rfl, hx⟩; rw [bk12]; replace hC := hC.ext hx; replace hO := hO.extend hx; clear hx)
    | (go_at_call 24; refine (Tip_any hC.tr).mono ?_; rintro e w1 ⟨rfl, hx⟩; rw [tip12]; replace hC := hC.ext hx; replace hO := hO.extend hx; clear hx)
    | ((with_reducible refine at_lit ?_); refine w_new Try.elI (i64s [1, 1]) rfl rfl rfl (i64s_cells _) rfl (by omega) ?_; intro v8 w5 hX o8; replace o8 : OwnI _ w5 v8 [1, 1] := o8; have i8 := o8.ints; clear o8)
    | ((with_reducible refine at_sbuild ?_); refine w_sbuild Try.stTx [.int .i64 5, .int .i64 0] rfl rfl rfl (by intro p hp; simp at hp; rcases hp with rfl; exact ⟨by decide, rfl⟩) ?_)
    | ((with_reducible refine at_sbuild ?_); refine w_sbuild Try.stTx [.int .i64 6, .int .i64 0] rfl rfl rfl (by intro p hp; simp at hp; rcases hp with rfl; exact ⟨by decide, rfl⟩) ?_)
    | ((with_reducible refine at_lit ?_); refine w_nnew Try.elTxN [t5.row] rfl rfl rfl (by simp [TxD.row]) rfl (by omega) ?_; intro v22 w6 B hB1 hB2 hx6 hn6; have o22 : OwnT W.heap.size w6 v22 [t5] := OwnT.of hn6 (by intro t ht; simp at ht; subst ht; exact rawT5) (fun k hk => Nat.le_trans hO.ext.size (Nat.le_trans hB1 (And.left hk))); replace hC := hC.ext hx6; replace hO := hO.extend hx6; clear hn6 hB1 hB2 hx6)
    | ((with_reducible refine at_lit ?_); refine w_nnew Try.elTxN [t5.row, t6.row] rfl rfl rfl (by simp [TxD.row]) rfl (by omega) ?_; intro v31 w6 B hB1 hB2 hx6 hn6; have o31 : OwnT W.heap.size w6 v31 [t5, t6] := OwnT.of hn6 (by intro t ht; simp at ht; rcases ht with rfl | rfl; exact rawT5; exact rawT6) (fun k hk => Nat.le_trans hO.ext.size (Nat.le_trans hB1 (And.left hk))); replace hC := hC.ext hx6; replace hO := hO.extend hx6; clear hn6 hB1 hB2 hx6)
    | ((with_reducible refine at_sbuild ?_); refine w_sbuild Try.stBlk [.int .i64 1, .int .i64 0, .int .i64 0, .int .i64 0, v22] rfl rfl rfl (by intro p hp; simp at hp; rcases hp with rfl | rfl; exact ⟨by decide, rfl⟩; exact ⟨by decide, oneCell_cells o22.recs.one'⟩) ?_)
    | ((with_reducible refine at_alloc ?_); refine w_alloc Try.stBlk rfl rfl ?_; intro g4 w2 hg2 hx2 f2; have hn4 := hide_ (show ¬ H2 g4 from fun h => by have := hC.lt g4 h; omega))
    | ((with_reducible refine at_store ?_); refine w_astore Try.stBlk _ _ (us := bRow cTwo u) rfl rfl rfl rfl rfl f2 rfl rfl one4 ?_; intro w3 hm3 f3; have f4 : Fs w3 g4 (bRow cTwo u) := f3; replace hx2 := hm3.after hx2 (fun i hi => by subst hi; exact hg2); replace hC := hC.ext hx2; replace hO := hO.extend hx2; replace o4 := o4.ext hx2; clear hm3 f3 hx2 hg2 f2)
    | ((with_reducible refine at_load ?_); (try refine w_yes _ _ _ rfl rfl rfl ?_); refine w_aload Try.stBlk _ rfl rfl rfl f4 rfl ?_)
    | ((with_reducible refine at_field ?_); (try refine w_yes _ _ _ rfl rfl rfl ?_); refine w_field Try.stBlk _ _ _ rfl rfl rfl (by omega) ?_)
    | ((with_reducible refine at_load ?_); (try refine w_yes _ _ _ rfl rfl rfl ?_); refine w_fload _ rfl rfl rfl f4 rfl (agg_of (by kernel_rfl)) ?_)
    | ((with_reducible refine at_bi ?_); (try refine w_yes _ _ _ rfl rfl rfl ?_); refine w_rlen Try.elTx _ rfl rfl rfl o4.recs ?_)
    | fail) <;> (try simp only [Act.put, List.setIfInBounds_toArray, List.set_cons_zero, List.set_cons_succ]))
  go_ret
  exact Keep.intro ⟨rfl, hO.ext⟩
end Go.Proofs.Ytpnbkgeglgiihaa
