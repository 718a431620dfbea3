/- The statement LedgerGrows: what is final stays. No condition. -/
import Derived.Test.YtdoeoncmhaihbaaLgLa
import Derived.Test.YtdoeoncmhaihbaaLgArg
import Derived.Test.YtdoeoncmhaihbaaLgG
import Derived.Test.YtdoeoncmhaihbaaLotR
namespace Go.Proofs.Ytdoeoncmhaihbaa
set_option maxRecDepth 100000
open Go.RowKit Go.ChangeShapes Go.WideShapes Go.ChangeAt

theorem runs_half {o : Oper} {ρ : Operand → Value} {w : World} {ty ty' : TypeId} (x y : Operand) {n : Nat} (ho : o.op = .binOp .quo ty x y ty') (hx : ρ x = .int .i64 (n : Nat)) (hy : ρ y = .int .i64 2) (hn : n ≤ 1000) : Runs Try.prog o ρ w (.int .i64 (n / 2 : Nat)) := by
  unfold Runs execOp
  simp [ho, hx, hy, go_sem]
  rw [IntKind.wrap_i64]
  omega
theorem w_half {ops : Array Oper} {rest : List Oper} {o : Oper} {a : Act} {Q : Exit → Act → World → Prop} {w : World} {ty ty' : TypeId} (x : Operand) {n : Nat} (hgd : o.guard = none) (ho : o.op = .binOp .quo ty x (.const (.int .i64 2)) ty') (hx : a.eval x = .int .i64 (n : Nat)) (hn : n ≤ 1000)
    (k : wpList Try.prog ops Q rest (a.put o.dst (.int .i64 (n / 2 : Nat))) w) : wpList Try.prog ops Q (o :: rest) a w := wpList_runs hgd (runs_half x _ ho hx rfl hn) k
theorem tkT_sub {ds : List Int} {slot : Int} {t : TrS} {b : BlkD} (h : TrS.Good t) : ∀ x ∈ t.known, x ∈ (tkT ds slot t b).known := fun x hx => by
  unfold tkT
  split
  · obtain ⟨n, h1, _⟩ := add_known (d := b) h
    rw [h1]; exact List.mem_append_left _ hx
  · exact hx
theorem grF_sub (ds : List Int) : ∀ (l : List BlkD) (t : TrS), TrS.Good t → ∀ x ∈ t.known, x ∈ (grF ds t l).known
  | [], _, _, _, hx => hx
  | _ :: l, _, h, x, hx => grF_sub ds l _ (tkT_good h) x (tkT_sub h x hx)
theorem gr_sub (ds : List Int) (l : List BlkD) (n : Nat) : ∀ x ∈ (gr ds (l.take n)).known, x ∈ (gr ds l).known := fun x hx => by
  have e : gr ds l = grF ds (gr ds (l.take n)) (l.drop n) := by
    conv => lhs; rw [← List.take_append_drop n l]
    unfold gr; rw [grF_app]
  rw [e]
  exact grF_sub ds _ _ (gr_good _ _) x hx

set_option maxRecDepth 100000 in
set_option maxHeartbeats 6400000 in
theorem ledgerGrows_law (v0 : Value) (l0 : List Int) (v1 : Value) (l : List BlkD) (v2 : Value) (xs : List Int) (W : World) (h00 : Ints W v0 l0) (hl0 : Recs 5 BlkL W v1 l) (hx0 : Ints W v2 xs) (hxI0 : I64s xs) :
    Calls Try.prog 6 #[v0, v1, v2] W fun e w' => e = .returned (.bool true) ∧ Ext W w' := by
  refine calls_keep ?_
  have h0 := hide_ h00
  have hbl := hide_ hl0
  have hxs := hide_ hx0
  have hxI := hide_ hxI0
  clear h00 hl0 hx0 hxI0
  by_cases hD0 : DrOk l0
  rotate_left
  · have e0 := hide_ (show lchk l0 = 101 from if_neg hD0)
    clear hD0
    go_enter Try.func6, Try.ntmps6
    go_wp2_with (first
      | go_big_skip
      | (go_at_call 10; refine (ledgerAlive_any _).mono ?_; rintro e w2 ⟨rfl, hX⟩)
      | (go_at_call 17; refine (refCheck_any (h0.out.ext hX)).mono ?_; rintro e w4 ⟨rfl, hx⟩; rw [e0.out]; replace hX := hX.trans hx; clear hx)
      | fail)
    go_ret
    exact Keep.intro ⟨rfl, hX⟩
  have e0 := hide_ (show lchk l0 = 0 from if_pos hD0)
  have hD := hide_ hD0
  by_cases hb1 : 40 < l.length
  · have t1 : decide ((40 : Int) < (l.length : Int)) = true := decide_eq_true (by omega)
    have t1' : decide ((l.length : Int) > 40) = true := decide_eq_true (by omega)
    clear hD0 hb1
    go_enter Try.func6, Try.ntmps6
    go_wp2_with ((first
      | go_big_skip
      | (go_at_call 10; refine (ledgerAlive_any _).mono ?_; rintro e w2 ⟨rfl, hX⟩)
      | (go_at_call 17; refine (refCheck_any (h0.out.ext hX)).mono ?_; rintro e w4 ⟨rfl, hx⟩; rw [e0.out]; replace hX := hX.trans hx; clear hx)
      | ((with_reducible refine at_bi ?_); (try refine w_yes _ _ _ rfl rfl rfl ?_); refine w_rlen Try.enBlk.elS _ rfl rfl rfl (hbl.out.ext BlkL.stays hX) ?_)
      | fail) <;> (try simp only [Act.put, List.setIfInBounds_toArray, List.set_cons_zero, List.set_cons_succ]))
    go_ret
    exact Keep.intro ⟨rfl, hX⟩
  have t1 : decide ((40 : Int) < (l.length : Int)) = false := decide_eq_false (by omega)
  have t1' : decide ((l.length : Int) > 40) = false := decide_eq_false (by omega)
  by_cases hb2 : 20 < xs.length
  · have t2 : decide ((20 : Int) < (xs.length : Int)) = true := decide_eq_true (by omega)
    have t2' : decide ((xs.length : Int) > 20) = true := decide_eq_true (by omega)
    clear hD0 hb1 hb2
    go_enter Try.func6, Try.ntmps6
    go_wp2_with ((first
      | go_big_skip
      | (go_at_call 10; refine (ledgerAlive_any _).mono ?_; rintro e w2 ⟨rfl, hX⟩)
      | (go_at_call 17; refine (refCheck_any (h0.out.ext hX)).mono ?_; rintro e w4 ⟨rfl, hx⟩; rw [e0.out]; replace hX := hX.trans hx; clear hx)
      | ((with_reducible refine at_bi ?_); (try refine w_yes _ _ _ rfl rfl rfl ?_); refine w_rlen Try.enBlk.elS _ rfl rfl rfl (hbl.out.ext BlkL.stays hX) ?_)
      | ((with_reducible refine at_bi ?_); (try refine w_yes _ _ _ rfl rfl rfl ?_); refine i_len _ rfl rfl rfl (hxs.out.ext hX) ?_)
      | fail) <;> (try simp only [Act.put, List.setIfInBounds_toArray, List.set_cons_zero, List.set_cons_succ]))
    go_ret
    exact Keep.intro ⟨rfl, hX⟩
  have t2 : decide ((20 : Int) < (xs.length : Int)) = false := decide_eq_false (by omega)
  have t2' : decide ((xs.length : Int) > 20) = false := decide_eq_false (by omega)
  have h40 := hide_ (show l.length ≤ 40 by omega)
  have h20 := hide_ (show xs.length ≤ 42 by omega)
  have hx20 := hide_ (show xs.length ≤ 20 by omega)
  have hbig := hide_ (show (([] : List Int).length + xs.length) * 8 ≤ 140737488355328 from by simp; omega)
  clear hD0 hb1 hb2
  go_enter Try.func6, Try.ntmps6

  have hn1 : l.length ≤ 1000 := by have := h40.out; omega
  have hn2 : xs.length ≤ 1000 := by have := hx20.out; omega
  have hh1 := hide_ (show l.length / 2 ≤ l.length by omega)
  have hh2 := hide_ (show xs.length / 2 ≤ xs.length by omega)
  have h20m := hide_ (show (xs.take (xs.length / 2)).length ≤ 42 from by rw [List.length_take]; have := h20.out; omega)
  have hmI := hide_ (i64s_take hxI.out (xs.length / 2))
  obtain ⟨K1, hK1⟩ : ∃ K1, (gr l0 (l.take (l.length / 2))).known = K1 := ⟨_, rfl⟩
  obtain ⟨K2, hK2⟩ : ∃ K2, (gr l0 l).known = K2 := ⟨_, rfl⟩
  have hg1 := gr_good l0 (l.take (l.length / 2))
  have hg2 := gr_good l0 l
  have hsub := gr_sub l0 l (l.length / 2)
  obtain ⟨A1, hA1⟩ : ∃ A1, finL K1 (xs.take (xs.length / 2)) = A1 := ⟨_, rfl⟩
  obtain ⟨A2, hA2⟩ : ∃ A2, finL K1 xs = A2 := ⟨_, rfl⟩
  obtain ⟨A3, hA3⟩ : ∃ A3, finL K2 xs = A3 := ⟨_, rfl⟩
  obtain ⟨D, hD1⟩ : ∃ D, avL K2 xs (backN (TrS.path K2 (TrS.tip K2)) 1) = D := ⟨_, rfl⟩
  obtain ⟨E1, hE1⟩ : ∃ E1, avL K1 xs (backN (TrS.path K1 (TrS.tip K1)) 1) = E1 := ⟨_, rfl⟩
  have hp1 := hide_ (show A1 <+: A2 from by rw [← hA1, ← hA2]; exact finL_more _ (List.take_prefix _ _))
  have hp2 := hide_ (show A2 <+: A3 from by rw [← hA2, ← hA3, ← hK1, ← hK2]; exact finL_grow hg1.uq hg2.uq hg1.stood hsub _)
  have hp3 := hide_ (show A3 <+: D from by rw [← hA3, ← hD1]; exact avL_pre _ _ _)
  have hp4 := hide_ (show A2 <+: E1 from by rw [← hA2, ← hE1]; exact avL_pre _ _ _)
  have hnd := hide_ (show D.Nodup from by rw [← hD1]; exact cl_nodup _)
  obtain ⟨s1, hs10⟩ : ∃ s1, settled K1 xs = s1 := ⟨_, rfl⟩
  obtain ⟨s2, hs20⟩ : ∃ s2, settled K2 xs = s2 := ⟨_, rfl⟩
  have tS : decide (s1 ≤ s2) = true := decide_eq_true (by rw [← hs10, ← hs20, ← hK1, ← hK2]; exact settled_mono hsub xs)
  have tS' : decide ((s1 : Int) ≤ (s2 : Int)) = true := decide_eq_true (by have := of_decide_eq_true tS; omega)
  have hs1 := hide_ hs10
  have hs2 := hide_ hs20
  have qA1 := hide_ hA1
  have qA2 := hide_ hA2
  have qA3 := hide_ hA3
  have qD := hide_ hD1
  have qE := hide_ hE1
  have qK1 := hide_ hK1
  have qK2 := hide_ hK2
  clear hs10 hs20 hA1 hA2 hA3 hD1 hE1 hK1 hK2 hsub hg1 hg2
  have tokA : True := trivial
  have tok1 : True := trivial
  have tok2 : True := trivial
  have tok3 : True := trivial
  have tok4 : True := trivial
  have tok5 : True := trivial
  have tok6 : True := trivial
  have tok7 : True := trivial
  have tok8 : True := trivial
  have tok9 : True := trivial
  have tokZ : True := trivial
  go_wp2_with ((first
    | go_big_skip
    | (go_at_call 10; refine (ledgerAlive_any _).mono ?_; rintro e w2 ⟨rfl, hX⟩)
    | (go_at_call 17; refine (refCheck_any (h0.out.ext hX)).mono ?_; rintro e w4 ⟨rfl, hx⟩; rw [e0.out]; replace hX := hX.trans hx; clear hx)
    | (go_at_call 18; refine (grownL_any (h0.out.ext hX) hD.out (hb41.out.ext BlkL.stays hX)).mono ?_; rintro e w5 ⟨q1, p1, dv1, vk1, vw1, H1, rfl, hG1⟩; have one1 := hide_ hG1.one; have hC1 := hG1.c; rw [qK1.out] at hC1; replace hX := hX.trans hG1.x; clear hG1 hb41)
    | (go_at_call 18; refine (grownL_any (h0.out.ext hX) hD.out (hbl.out.ext BlkL.stays hX)).mono ?_; rintro e w5 ⟨q2, p2, dv2, vk2, vw2, H2, rfl, hG2⟩; have one2 := hide_ hG2.one; have hC2 := hG2.c; rw [qK2.out] at hC2; replace hC1 := hC1.ext hG2.x; replace hX := hX.trans hG2.x; clear hG2)
    | ((with_reducible refine at_bi ?_); (try refine w_yes _ _ _ rfl rfl rfl ?_); refine w_rlen Try.enBlk.elS _ rfl rfl rfl (hbl.out.ext BlkL.stays hX) ?_)
    | ((with_reducible refine at_bi ?_); (try refine w_yes _ _ _ rfl rfl rfl ?_); refine i_len _ rfl rfl rfl (hxs.out.ext hX) ?_)
    | ((with_reducible refine at_alloc ?_); have _t := tokA; refine w_allocN Try.stDocC rfl rfl ?_; intro g8 w6 hg8 hx2 f8; clear tokA)
    | ((with_reducible refine at_alloc ?_); refine w_allocN Try.stDocC rfl rfl ?_; intro g10 w6 hg10 hx2 f10)
    | ((with_reducible refine at_store ?_); refine w_astoreN Try.stDocC (.tmp 8) _ (us := cRow vk1 vw1 v0 1 200) rfl rfl rfl rfl rfl f8 rfl rfl one1.out ?_; intro w7 hm3 f9; replace hx2 := hm3.after hx2 (fun i hi => by subst hi; exact hg8); replace hC1 := hC1.ext hx2; replace hX := hX.trans hx2; clear hm3 f9 hx2 hg8 f8 one1)
    | ((with_reducible refine at_store ?_); refine w_astoreN Try.stDocC (.tmp 10) _ (us := cRow vk2 vw2 v0 1 200) rfl rfl rfl rfl rfl f10 rfl rfl one2.out ?_; intro w10 hm3 f9; replace hx2 := hm3.after hx2 (fun i hi => by subst hi; exact hg10); have kC1 := hide_ (hC1.ext hx2); have kC2 := hide_ (hC2.ext hx2); have hX10 := hide_ (hX.trans hx2); have hY := Ext.refl w10; clear hm3 f9 hx2 hg10 f10 one2 hC1 hC2 hX)
    | ((with_reducible refine at_bin ?_); refine w_half _ rfl rfl rfl hn1 ?_)
    | ((with_reducible refine at_bin ?_); refine w_half _ rfl rfl rfl hn2 ?_)
    | ((with_reducible refine at_bi ?_); refine i_len _ rfl rfl rfl (hxs.out.ext (hX10.out.trans hY)) ?_)
    | ((with_reducible refine at_cut ?_); refine w_nto0 Try.enBlk.elS _ _ (l.length / 2) rfl rfl rfl rfl hbl.out hh1.out ?_; intro v41 hbl2; have hb41 := hide_ hbl2; clear hbl2)
    | ((with_reducible refine at_cut ?_); refine w_ito _ _ (xs.length / 2) rfl rfl rfl (hxs.out.ext (hX10.out.trans hY)) rfl rfl hh2.out ?_; intro v55 i55; have j55 := hide_ i55; have hY55 := hide_ hY; have j10 := hide_ hY; clear i55)
    | (go_at_call 12; have _t := tok1; refine (Final_any (kC1.out.ext hY) (j55.out.ext hY) hmI.out h20m.out).mono ?_; rintro e w11 ⟨v58, rfl, o58, hx⟩; rw [qA1.out] at o58; (try replace i58 := Sl.ext i58 hx); (try replace i61 := Sl.ext i61 hx); (try replace i64 := Sl.ext i64 hx); (try replace i67 := Sl.ext i67 hx); (try replace i90 := Sl.ext i90 hx); replace hY := hY.trans hx; clear hx; have i58 := o58.ints; clear o58; clear tok1)
    | (go_at_call 12; have _t := tok2; refine (Final_any (kC1.out.ext hY) (hxs.out.ext (hX10.out.trans hY)) hxI.out h20.out).mono ?_; rintro e w11 ⟨v61, rfl, o61, hx⟩; rw [qA2.out] at o61; (try replace i58 := Sl.ext i58 hx); (try replace i61 := Sl.ext i61 hx); (try replace i64 := Sl.ext i64 hx); (try replace i67 := Sl.ext i67 hx); (try replace i90 := Sl.ext i90 hx); replace hY := hY.trans hx; clear hx; have i61 := o61.ints; clear o61; clear tok2)
    | (go_at_call 12; have _t := tok3; refine (Final_any (kC2.out.ext hY) (hxs.out.ext (hX10.out.trans hY)) hxI.out h20.out).mono ?_; rintro e w11 ⟨v64, rfl, o64, hx⟩; rw [qA3.out] at o64; (try replace i58 := Sl.ext i58 hx); (try replace i61 := Sl.ext i61 hx); (try replace i64 := Sl.ext i64 hx); (try replace i67 := Sl.ext i67 hx); (try replace i90 := Sl.ext i90 hx); replace hY := hY.trans hx; clear hx; have i64 := o64.ints; clear o64; clear tok3)
    | (go_at_call 12; have _t := tokZ; refine (Final_any (kC1.out.ext hY) (hxs.out.ext (hX10.out.trans hY)) hxI.out h20.out).mono ?_; rintro e w11 ⟨v61, rfl, o61, hx⟩; rw [qA2.out] at o61; (try replace i58 := Sl.ext i58 hx); (try replace i61 := Sl.ext i61 hx); (try replace i64 := Sl.ext i64 hx); (try replace i67 := Sl.ext i67 hx); (try replace i90 := Sl.ext i90 hx); replace hY := hY.trans hx; clear hx; have i61 := o61.ints; clear o61; clear tokZ)
    | (go_at_call 13; have _t := tok4; refine (Avail_any (kC2.out.ext hY) (hxs.out.ext (hX10.out.trans hY)) hxI.out h20.out).mono ?_; rintro e w11 ⟨v67, rfl, o67, hx⟩; rw [qD.out] at o67; (try replace i58 := Sl.ext i58 hx); (try replace i61 := Sl.ext i61 hx); (try replace i64 := Sl.ext i64 hx); (try replace i67 := Sl.ext i67 hx); (try replace i90 := Sl.ext i90 hx); replace hY := hY.trans hx; clear hx; have i67 := o67.ints; clear o67; clear tok4)
    | (go_at_call 13; have _t := tok5; refine (Avail_any (kC1.out.ext hY) (hxs.out.ext (hX10.out.trans hY)) hxI.out h20.out).mono ?_; rintro e w11 ⟨v90, rfl, o90, hx⟩; rw [qE.out] at o90; (try replace i58 := Sl.ext i58 hx); (try replace i61 := Sl.ext i61 hx); (try replace i64 := Sl.ext i64 hx); (try replace i67 := Sl.ext i67 hx); (try replace i90 := Sl.ext i90 hx); replace hY := hY.trans hx; clear hx; have i90 := o90.ints; clear o90; clear tok5)
    | (go_at_call 22; have _t := tok6; refine (begins_yes i58 i61 hp1.out).mono ?_; rintro e w12 ⟨rfl, hx⟩; (try replace i58 := Sl.ext i58 hx); (try replace i61 := Sl.ext i61 hx); (try replace i64 := Sl.ext i64 hx); (try replace i67 := Sl.ext i67 hx); (try replace i90 := Sl.ext i90 hx); replace hY := hY.trans hx; clear hx; clear tok6)
    | (go_at_call 22; have _t := tok7; refine (begins_yes i61 i64 hp2.out).mono ?_; rintro e w12 ⟨rfl, hx⟩; (try replace i58 := Sl.ext i58 hx); (try replace i61 := Sl.ext i61 hx); (try replace i64 := Sl.ext i64 hx); (try replace i67 := Sl.ext i67 hx); (try replace i90 := Sl.ext i90 hx); replace hY := hY.trans hx; clear hx; clear tok7)
    | (go_at_call 22; have _t := tok8; refine (begins_yes i64 i67 hp3.out).mono ?_; rintro e w12 ⟨rfl, hx⟩; (try replace i58 := Sl.ext i58 hx); (try replace i61 := Sl.ext i61 hx); (try replace i64 := Sl.ext i64 hx); (try replace i67 := Sl.ext i67 hx); (try replace i90 := Sl.ext i90 hx); replace hY := hY.trans hx; clear hx; clear tok8)
    | (go_at_call 22; have _t := tok9; refine (begins_yes i61 i90 hp4.out).mono ?_; rintro e w12 ⟨rfl, hx⟩; (try replace i58 := Sl.ext i58 hx); (try replace i61 := Sl.ext i61 hx); (try replace i64 := Sl.ext i64 hx); (try replace i67 := Sl.ext i67 hx); (try replace i90 := Sl.ext i90 hx); replace hY := hY.trans hx; clear hx; clear tok9)
    | ((with_reducible refine at_bi ?_); refine i_len _ rfl rfl rfl i67 ?_)
    | fail) <;> (try simp only [Act.put, List.setIfInBounds_toArray, List.set_cons_zero, List.set_cons_succ]))
  have hmax : D.length ≤ 9223372036854775807 := by have := Sl.len_le i67; unfold maxLen at this; rw [i64s_length] at this; omega
  have k67 := hide_ i67
  have hY9 := hide_ hY
  have hZ := Ext.refl w12
  clear i67 i90 hY
  go_loopw [96] (fun i wr => ∃ k : Nat, i = .int .i64 k ∧ k ≤ D.length ∧ Ext w12 wr) (fun i _ => D.length - (RowKit.intOf i).toNat)
  case atStart => exact ⟨0, rfl, Nat.zero_le _, hZ⟩
  case round =>
    clear hZ
    obtain ⟨k, rfl, hk, hZ⟩ := hrel
    by_cases hge : D.length ≤ k
    · obtain rfl : k = D.length := by omega
      have t3 : decide (D.length < D.length) = false := by simp
      clear hge
      have tokS : True := trivial
      go_wp2_with (first
        | (go_at_call 14; have _t := tokS; refine (Settled_any (kC1.out.ext (hY9.out.trans hZ)) (hxs.out.ext (hX10.out.trans (hY9.out.trans hZ))) hxI.out h20.out).mono ?_; rintro e w13 ⟨rfl, hx⟩; rw [hs1.out]; replace hZ := hZ.trans hx; clear hx tokS)
        | (go_at_call 14; refine (Settled_any (kC2.out.ext (hY9.out.trans hZ)) (hxs.out.ext (hX10.out.trans (hY9.out.trans hZ))) hxI.out h20.out).mono ?_; rintro e w13 ⟨rfl, hx⟩; rw [hs2.out]; replace hZ := hZ.trans hx; clear hx)
        | fail)
      go_ret
      exact Keep.intro ⟨rfl, hX10.out.trans (hY9.out.trans hZ)⟩
    have hlt : k < D.length := by omega
    have t3 : decide (k < D.length) = true := by simpa using hlt
    obtain ⟨x, hx0⟩ : ∃ x, D[k] = x := ⟨_, rfl⟩
    have hlt' := hide_ hlt
    have hxx := hide_ (show D[k]'(hlt'.out) = x from hx0)
    have hkb : k < 9223372036854775807 := by omega
    have hkl := hide_ (show k ≤ D.length from hk)
    obtain ⟨T, hT0⟩ : ∃ T, D.take k = T := ⟨_, rfl⟩
    have hT := hide_ hT0
    have hTl := hide_ (show T.length = k from by rw [← hT0, List.length_take]; omega)
    have hnx := hide_ (show ∀ y ∈ T, x ≠ y from fun y hy e => by
      rw [← hT0] at hy
      obtain ⟨j, hj, e2⟩ := List.getElem_of_mem hy
      rw [List.length_take] at hj
      rw [List.getElem_take] at e2
      exact List.pairwise_iff_getElem.1 hnd.out j k (by omega) hlt'.out (by omega) (by rw [e2, hx0, e]))
    clear hge hlt hx0 hT0 hmax
    go_wp2_with ((first
      | ((with_reducible refine at_idx ?_); refine i_idx _ _ k rfl rfl rfl (k67.out.ext hZ) rfl hlt'.out ?_; intro ad had; rw [hxx.out] at had)
      | ((with_reducible refine at_cut ?_); refine w_ito _ _ k rfl rfl rfl (k67.out.ext hZ) rfl rfl hkl.out ?_; intro v103 i103; rw [hT.out] at i103; have k103 := hide_ i103; have hZ0 := hide_ hZ; clear i103)
      | ((with_reducible refine at_bi ?_); refine i_len _ rfl rfl rfl k103.out ?_)
      | fail) <;> (try simp only [Act.put, List.setIfInBounds_toArray, List.set_cons_zero, List.set_cons_succ]))
    have hW := Ext.refl wr
    go_loopw [105] (fun i wy => ∃ m : Nat, i = .int .i64 m ∧ m ≤ T.length ∧ Ext wr wy) (fun i _ => T.length - (RowKit.intOf i).toNat)
    case atStart => exact ⟨0, rfl, Nat.zero_le _, hW⟩
    case round =>
      clear hW
      obtain ⟨m, rfl, hm, hW⟩ := hrel
      by_cases hge : T.length ≤ m
      · obtain rfl : m = T.length := by omega
        have t4 : decide (T.length < T.length) = false := by simp
        have hZ9 := hZ0.out.trans hW
        clear hge
        go_wp2
        go_roundw
        case rel => exact ⟨k + 1, by go_num, hlt'.out, hZ9⟩
        case measure => have := hlt'.out; simp [RowKit.intOf]; omega
      have hml : m < T.length := by omega
      have t4 : decide (m < T.length) = true := by simpa using hml
      obtain ⟨y, hy0⟩ : ∃ y, T[m] = y := ⟨_, rfl⟩
      have hml' := hide_ hml
      have hyy := hide_ (show T[m]'(hml'.out) = y from hy0)
      have txy : (x == y) = false := by simpa using hnx.out y (hy0 ▸ List.getElem_mem hml)
      have hmb : m < 9223372036854775807 := by have := hTl.out; omega
      clear hge hml hy0
      go_wp2_with ((first
        | ((with_reducible refine at_idx ?_); refine i_idx _ _ m rfl rfl rfl (k103.out.ext hW) rfl hml'.out ?_; intro ad had; rw [hyy.out] at had)
        | fail) <;> (try simp only [Act.put, List.setIfInBounds_toArray, List.set_cons_zero, List.set_cons_succ]))
      go_roundw
      case rel => exact ⟨m + 1, by go_num, hml'.out, hW⟩
      case measure => have := hml'.out; simp [RowKit.intOf]; omega

set_option maxRecDepth 100000 in
theorem ledgerGrows_lifted (os : Os) (started : os.Started) (H : Type) (enc : TypeId × Value → H) :
    ReturnsInHanded {} Try.checked os 6 .any (Rows.ledgerGrowsSpec.pre6 enc Try.prog Try.f6 Rows.ledgerGrowsRow.domain false) (Rows.ledgerGrowsSpec.post enc Try.prog Try.f6 false true false false) := by
  refine law_lifted (s := Rows.ledgerGrowsSpec) (conds := Rows.ledgerGrowsRow.domain) Try.func6 (by kernel_rfl) rfl (fun H ds h => by
      rw [show Try.f6.params.size = 3 from rfl] at h
      match ds, h with
      | [d0, d1, d2], _ => rfl) rfl rfl (by decide +kernel) os started H enc
    (ChangeSpec.witness6 (enc := enc) (C := Try.checked) false ⟨#[], #[.slice none 0 0, .slice none 0 0, .slice none 0 0], []⟩ 8 (by kernel_rfl) (by kernel_rfl) (by kernel_rfl) (by kernel_rfl)) ?_
  intro W base args ds p hval hA hsz _
  have hp : Try.f6.params.toList = [25, 33, 25] := rfl
  rw [hp] at hA hsz
  obtain ⟨v0, v1, v2, d0, d1, d2, p0, p1, p2, rfl, rfl, rfl, h0, h1, h2⟩ := trodAll_three hA
  obtain ⟨l0, a0, b0, c0⟩ := arg_ints hsz (j := 0) rfl rfl (hval 0 25 v0 rfl rfl) h0
  obtain ⟨l1, k1⟩ := arg_Blks hsz (j := 1) rfl rfl (hval 1 33 v1 rfl rfl) h1
  obtain ⟨l2, a2, b2, c2⟩ := arg_ints hsz (j := 2) rfl rfl (hval 2 25 v2 rfl rfl) h2
  exact ledgerGrows_law v0 l0 v1 l1 v2 l2 W a0 k1 a2 b2

theorem ledgerGrows_holds : Rows.LedgerGrowsSaid :=
  OpenClaim.holds_of_wide 6 Try.f6 rfl rfl rfl rfl rfl rfl rfl ⟨rfl, rfl, rfl, rfl, rfl⟩ rfl rfl rfl rfl rfl (by kernel_rfl) Try.func6 (by kernel_rfl)
    (of_decide_eq_true (by kernel_rfl)) (by unfold Func.isWrapper; first | (rw [if_pos (by decide +kernel)]; kernel_rfl) | (rw [if_neg (by decide +kernel)]; exact ⟨rfl, rfl⟩))
    (fun os started H enc _ => ledgerGrows_lifted os started H enc)
#print axioms ledgerGrows_holds

end Go.Proofs.Ytdoeoncmhaihbaa
