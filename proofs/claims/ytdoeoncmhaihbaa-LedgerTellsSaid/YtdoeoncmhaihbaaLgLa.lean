/- The chapter's example of two ledgers. -/
import Derived.Test.YtdoeoncmhaihbaaLgB
import Derived.Test.YtdoeoncmhaihbaaCLa
namespace Go.Proofs.Ytdoeoncmhaihbaa
set_option maxRecDepth 100000
open Go.RowKit

def tx1 : TxD := ⟨1, 0⟩
def tx2 : TxD := ⟨2, 0⟩
def tx3 : TxD := ⟨3, 0⟩
def lOne : BlkD := ⟨1, 0, 0, 0, [tx1, tx2]⟩
def lTwo : BlkD := ⟨1, 1, 0, 0, [tx1]⟩
def lThr : BlkD := ⟨2, 1, 0, 65792, [tx3]⟩
theorem lk1 : tkT [3, 3] 2 ⟨[], []⟩ lOne = ⟨[lOne], []⟩ := by kernel_rfl
theorem lk2 : tkT [3, 3] 2 ⟨[lOne], []⟩ lTwo = ⟨[lOne, lTwo], []⟩ := by kernel_rfl
theorem lk3 : tkT [3, 3] 2 ⟨[lOne, lTwo], []⟩ lThr = ⟨[lOne, lTwo, lThr], []⟩ := by kernel_rfl
theorem lav : avL [lOne, lTwo, lThr] [65536] (backN (TrS.path [lOne, lTwo, lThr] (TrS.tip [lOne, lTwo, lThr])) 0) = [1, 2, 3] := by kernel_rfl
theorem lfi : finL [lOne, lTwo, lThr] [65536, 6488064, 0] = [1, 2] := by kernel_rfl
theorem lse : settled [lOne, lTwo, lThr] [0, 6488064, 0] = 1 := by kernel_rfl
theorem rawX1 : tx1.Raw := ⟨by simp [tx1], by simp [tx1]⟩
theorem rawX2 : tx2.Raw := ⟨by simp [tx2], by simp [tx2]⟩
theorem rawX3 : tx3.Raw := ⟨by simp [tx3], by simp [tx3]⟩
theorem rawL1 : lOne.Raw := ⟨by simp [lOne], by simp [lOne], by simp [lOne], by simp [lOne], by intro t ht; simp [lOne] at ht; rcases ht with rfl | rfl; exact rawX1; exact rawX2⟩
theorem rawL2 : lTwo.Raw := ⟨by simp [lTwo], by simp [lTwo], by simp [lTwo], by simp [lTwo], by intro t ht; simp [lTwo] at ht; subst ht; exact rawX1⟩
theorem rawL3 : lThr.Raw := ⟨by simp [lThr], by simp [lThr], by simp [lThr], by simp [lThr], by intro t ht; simp [lThr] at ht; subst ht; exact rawX3⟩
theorem i64s_of {l : List Int} (h : (l.all fun x => decide (-9223372036854775808 ≤ x) && decide (x ≤ 9223372036854775807)) = true) : I64s l := fun x hx => by
  have := List.all_eq_true.1 h x hx
  rw [Bool.and_eq_true, decide_eq_true_iff, decide_eq_true_iff] at this
  exact this

set_option maxRecDepth 100000 in
set_option maxHeartbeats 3200000 in
theorem ledgerAlive_any (W : World) : Calls Try.prog 10 #[] W fun e w' => e = .returned (.bool true) ∧ Ext W w' := by
  refine calls_keep ?_
  have tokA : True := trivial
  have tokB : True := trivial
  have tokC : True := trivial
  have hD := hide_ (show DrOk [3, 3] from by decide)
  go_enter Try.func10, Try.ntmps10
  go_wp2_with ((first
    | (go_at_call 9; refine (CNew_any (deep := 0) i8 hD.out ⟨by omega, by omega⟩).mono ?_; rintro e w1 ⟨q, p, dv, H, rfl, hC, hx, hq, hH⟩; have hO : Out W (CQ H q) w1 := ⟨hX.trans hx, fun k hk => hk.elim (fun e => Nat.le_trans hX.size (hH k e)) (fun e => e ▸ Nat.le_trans hX.size hq)⟩; clear hX hx hq hH i8)
    | (go_at_call 27; refine (CNext_any (n := 2) hC ⟨by omega, by omega⟩).mono ?_; rintro e w1 ⟨rfl, hC2, hm⟩; rw [max02] at hC2; replace hC := hC2; replace hO := hO.nx hm; clear hC2 hm)
    | (go_at_call 28; have _t := tokA; refine (CTake_any (b := lOne) hC (by simp) o9.recs rawL1).mono ?_; rintro e w1 ⟨v2, H2, rfl, _, hC2, hU⟩; rw [lk1] at hC2; replace hC := hC2; replace hO := hO.ch hU; clear hC2 hU tokA o9)
    | (go_at_call 28; have _t := tokB; refine (CTake_any (b := lTwo) hC (by simp) o14.recs rawL2).mono ?_; rintro e w1 ⟨v2, H2, rfl, _, hC2, hU⟩; rw [lk2] at hC2; replace hC := hC2; replace hO := hO.ch hU; clear hC2 hU tokB o14)
    | (go_at_call 28; have _t := tokC; refine (CTake_any (b := lThr) hC (by simp) o19.recs rawL3).mono ?_; rintro e w1 ⟨v2, H2, rfl, _, hC2, hU⟩; rw [lk3] at hC2; replace hC := hC2; replace hO := hO.ch hU; clear hC2 hU tokC o19)
    | (go_at_call 13; refine (Avail_any (xs := [65536]) hC i23 (i64s_of rfl) (by simp)).mono ?_; rintro e w1 ⟨v24, rfl, o24, hx⟩; rw [lav] at o24; replace o24 := o24.ints; replace hC := hC.ext hx; replace hO := hO.extend hx; clear hx i23)
    | (go_at_call 12; refine (Final_any (xs := [65536, 6488064, 0]) hC i29 (i64s_of rfl) (by simp)).mono ?_; rintro e w1 ⟨v30, rfl, o30, hx⟩; rw [lfi] at o30; replace o30 := o30.ints; replace hC := hC.ext hx; replace hO := hO.extend hx; clear hx i29)
    | (go_at_call 14; refine (Settled_any (xs := [0, 6488064, 0]) hC i36 (i64s_of rfl) (by simp)).mono ?_; rintro e w1 ⟨rfl, hx⟩; rw [lse]; replace hC := hC.ext hx; replace hO := hO.extend hx; clear hx i36)
    | (go_at_call 15; refine (SameInts_any _ _ [1, 2, 3] _ o24 i25).mono ?_; rintro e wD ⟨rfl, hx⟩; replace hC := hC.ext hx; replace hO := hO.extend hx; clear hx o24 i25)
    | (go_at_call 15; refine (SameInts_any _ _ [1, 2] _ o30 i31).mono ?_; rintro e wD ⟨rfl, hx⟩; replace hC := hC.ext hx; replace hO := hO.extend hx; clear hx o30 i31)
    | ((with_reducible refine at_lit ?_); refine w_new Try.elI (i64s [3, 3]) rfl rfl rfl (i64s_cells _) rfl (by omega) ?_; intro v8 w5 hX o8; replace o8 : OwnI _ w5 v8 [3, 3] := o8; have i8 := o8.ints; clear o8)
    | ((with_reducible refine at_sbuild ?_); refine w_sbuild Try.stTx [.int .i64 1, .int .i64 0] rfl rfl rfl (by intro p hp; simp at hp; rcases hp with rfl; exact ⟨by decide, rfl⟩) ?_)
    | ((with_reducible refine at_sbuild ?_); refine w_sbuild Try.stTx [.int .i64 2, .int .i64 0] rfl rfl rfl (by intro p hp; simp at hp; rcases hp with rfl; exact ⟨by decide, rfl⟩) ?_)
    | ((with_reducible refine at_sbuild ?_); refine w_sbuild Try.stTx [.int .i64 3, .int .i64 0] rfl rfl rfl (by intro p hp; simp at hp; rcases hp with rfl; exact ⟨by decide, rfl⟩) ?_)
    | ((with_reducible refine at_lit ?_); refine w_nnew Try.elTxN [tx1.row, tx2.row] rfl rfl rfl (by simp [TxD.row]) rfl (by omega) ?_; intro v9 w6 B hB1 hB2 hx6 hn6; have o9 : OwnT W.heap.size w6 v9 [tx1, tx2] := OwnT.of hn6 (by intro t ht; simp at ht; rcases ht with rfl | rfl; exact rawX1; exact rawX2) (fun k hk => Nat.le_trans hO.ext.size (Nat.le_trans hB1 (And.left hk))); replace hC := hC.ext hx6; replace hO := hO.extend hx6; clear hn6 hB1 hB2 hx6)
    | ((with_reducible refine at_lit ?_); refine w_nnew Try.elTxN [tx1.row] rfl rfl rfl (by simp [TxD.row]) rfl (by omega) ?_; intro v14 w6 B hB1 hB2 hx6 hn6; have o14 : OwnT W.heap.size w6 v14 [tx1] := OwnT.of hn6 (by intro t ht; simp at ht; subst ht; exact rawX1) (fun k hk => Nat.le_trans hO.ext.size (Nat.le_trans hB1 (And.left hk))); replace hC := hC.ext hx6; replace hO := hO.extend hx6; clear hn6 hB1 hB2 hx6)
    | ((with_reducible refine at_lit ?_); refine w_nnew Try.elTxN [tx3.row] rfl rfl rfl (by simp [TxD.row]) rfl (by omega) ?_; intro v19 w6 B hB1 hB2 hx6 hn6; have o19 : OwnT W.heap.size w6 v19 [tx3] := OwnT.of hn6 (by intro t ht; simp at ht; subst ht; exact rawX3) (fun k hk => Nat.le_trans hO.ext.size (Nat.le_trans hB1 (And.left hk))); replace hC := hC.ext hx6; replace hO := hO.extend hx6; clear hn6 hB1 hB2 hx6)
    | ((with_reducible refine at_sbuild ?_); refine w_sbuild Try.stBlk [.int .i64 1, .int .i64 0, .int .i64 0, .int .i64 0, v9] rfl rfl rfl (by intro p hp; simp at hp; rcases hp with rfl | rfl; exact ⟨by decide, rfl⟩; exact ⟨by decide, oneCell_cells o9.recs.one'⟩) ?_)
    | ((with_reducible refine at_sbuild ?_); refine w_sbuild Try.stBlk [.int .i64 1, .int .i64 1, .int .i64 0, .int .i64 0, v14] rfl rfl rfl (by intro p hp; simp at hp; rcases hp with rfl | rfl | rfl; exact ⟨by decide, rfl⟩; exact ⟨by decide, rfl⟩; exact ⟨by decide, oneCell_cells o14.recs.one'⟩) ?_)
    | ((with_reducible refine at_sbuild ?_); refine w_sbuild Try.stBlk [.int .i64 2, .int .i64 1, .int .i64 0, .int .i64 65792, v19] rfl rfl rfl (by intro p hp; simp at hp; rcases hp with rfl | rfl | rfl | rfl; exact ⟨by decide, rfl⟩; exact ⟨by decide, rfl⟩; exact ⟨by decide, rfl⟩; exact ⟨by decide, oneCell_cells o19.recs.one'⟩) ?_)
    | ((with_reducible refine at_lit ?_); (try refine w_yes _ _ _ rfl rfl rfl ?_); refine w_new Try.elI (i64s [65536]) rfl rfl rfl (i64s_cells _) rfl (by omega) ?_; intro v5 w5 hx o5; have i23 : Ints w5 v5 [65536] := OwnI.ints (base := _) o5; replace hC := hC.ext hx; replace hO := hO.extend hx; (try replace o24 := Sl.ext o24 hx); (try replace o30 := Sl.ext o30 hx); clear hx o5)
    | ((with_reducible refine at_lit ?_); (try refine w_yes _ _ _ rfl rfl rfl ?_); refine w_new Try.elI (i64s [1, 2, 3]) rfl rfl rfl (i64s_cells _) rfl (by omega) ?_; intro v5 w5 hx o5; have i25 : Ints w5 v5 [1, 2, 3] := OwnI.ints (base := _) o5; replace hC := hC.ext hx; replace hO := hO.extend hx; (try replace o24 := Sl.ext o24 hx); (try replace o30 := Sl.ext o30 hx); clear hx o5)
    | ((with_reducible refine at_lit ?_); (try refine w_yes _ _ _ rfl rfl rfl ?_); refine w_new Try.elI (i64s [65536, 6488064, 0]) rfl rfl rfl (i64s_cells _) rfl (by omega) ?_; intro v5 w5 hx o5; have i29 : Ints w5 v5 [65536, 6488064, 0] := OwnI.ints (base := _) o5; replace hC := hC.ext hx; replace hO := hO.extend hx; (try replace o24 := Sl.ext o24 hx); (try replace o30 := Sl.ext o30 hx); clear hx o5)
    | ((with_reducible refine at_lit ?_); (try refine w_yes _ _ _ rfl rfl rfl ?_); refine w_new Try.elI (i64s [1, 2]) rfl rfl rfl (i64s_cells _) rfl (by omega) ?_; intro v5 w5 hx o5; have i31 : Ints w5 v5 [1, 2] := OwnI.ints (base := _) o5; replace hC := hC.ext hx; replace hO := hO.extend hx; (try replace o24 := Sl.ext o24 hx); (try replace o30 := Sl.ext o30 hx); clear hx o5)
    | ((with_reducible refine at_lit ?_); (try refine w_yes _ _ _ rfl rfl rfl ?_); refine w_new Try.elI (i64s [0, 6488064, 0]) rfl rfl rfl (i64s_cells _) rfl (by omega) ?_; intro v5 w5 hx o5; have i36 : Ints w5 v5 [0, 6488064, 0] := OwnI.ints (base := _) o5; replace hC := hC.ext hx; replace hO := hO.extend hx; (try replace o24 := Sl.ext o24 hx); (try replace o30 := Sl.ext o30 hx); clear hx o5)
    | fail) <;> (try simp only [Act.put, List.setIfInBounds_toArray, List.set_cons_zero, List.set_cons_succ]))
  go_ret
  exact Keep.intro ⟨rfl, hO.ext⟩
end Go.Proofs.Ytdoeoncmhaihbaa
