/- The contract of lot.Single for any draws: it answers, whatever they are. -/
import Derived.Test.YtpnbkgeglgiihaaLTG
import Derived.Test.YtpnbkgeglgiihaaCont
namespace Go.Proofs.Ytpnbkgeglgiihaa
set_option maxRecDepth 100000
open Go.RowKit

set_option maxRecDepth 100000 in
set_option maxHeartbeats 1600000 in
theorem Wins_free {w : World} {v : Value} {l : List Int} {s n : Int} (h0 : Ints w v l) :
    Calls Try.prog 34 #[v, .int .i64 s, .int .i64 n] w fun e w' => ∃ b, e = .returned (.bool b) ∧ Ext w w' := by
  refine calls_keep ?_
  by_cases g : 1 ≤ s ∧ s ≤ l.length ∧ 0 ≤ n ∧ n ≤ 6
  · obtain ⟨i, rfl⟩ : ∃ i : Nat, s = (i : Int) + 1 := ⟨(s - 1).toNat, by omega⟩
    obtain ⟨k, rfl⟩ : ∃ k : Nat, n = (k : Int) := ⟨n.toNat, by omega⟩
    have hlt : i < l.length := by omega
    have hk : k < 7 := by omega
    have hlen := h0.len_le
    unfold maxLen at hlen
    obtain ⟨d, hd0⟩ : ∃ d, l[i] = d := ⟨_, rfl⟩
    obtain ⟨b, hb⟩ : ∃ b, (bits .and .i64 d ((2 ^ k : Nat) : Int) != 0) = b := ⟨_, rfl⟩
    have hand := hide_ hb
    have hx := hide_ hd0
    have t1 : decide ((i : Int) + 1 < 1) = false := by simp; omega
    have t2 : decide ((l.length : Int) < (i : Int) + 1) = false := by simp; omega
    have t3 : decide ((k : Int) < 0) = false := by simp
    have t4 : decide (7 ≤ (k : Int)) = false := by simp; omega
    have hwi := hide_ (show IntKind.i64.wrap (i : Int) = (i : Int) from by simp [IntKind.wrap, IntKind.signed, IntKind.bits]; omega)
    have K0 := hide_ (h0.ext (Ext.refl w).drew)
    replace h0 := hide_ h0
    clear g hb hd0
    go_enter Try.func34, Try.ntmps34
    go_wp2_with ((first
      | ((with_reducible refine at_bi ?_); (try refine w_yes _ _ _ rfl rfl rfl ?_); refine i_len _ rfl rfl (v := v) rfl h0.out ?_)
      | fail) <;> (try simp only [Act.put, List.setIfInBounds_toArray, List.set_cons_zero, List.set_cons_succ]))
    refine wp_region_linR (by kernel_rfl) (by kernel_rfl) ?_
    refine LinR.step (s := (.val v)) [(0, none)] rfl (by kernel_rfl) (op_out 0 v rfl (.inl rfl) rfl) ?_
    refine LinR.step (s := (.val (.int .i64 ((i : Int) + 1)))) [(1, none)] rfl (by kernel_rfl) (op_out 1 (.int .i64 ((i : Int) + 1)) rfl (.inl rfl) rfl) ?_
    refine LinR.step (s := (.val (.int .i64 (i : Int)))) [(24, some 0)] rfl (by kernel_rfl) (op_runs rfl fun σ w' hx hg => ⟨(.int .i64 (i : Int)), by have h24 : σ.tmps.getD 24 undef = .int .i64 ((i : Int) + 1) := hg.1; unfold Runs execOp; simp [Act.eval, h24, go_sem, hwi.out], rfl⟩) ?_
    refine LinR.step (s := (Sp.ptr (.int .i64 d))) [(23, some 2), (25, some 0)] rfl (by kernel_rfl) (op_runs rfl fun σ w' hx' hg => rptri (ρ := σ.eval) (w := w') (.tmp 23) (.tmp 25) rfl (hg.1) (K0.out.ext hx') i hg.2.1 hlt hx.out) ?_
    refine LinR.step (s := (.val (.int .i64 d))) [(26, some 0)] rfl (by kernel_rfl) (op_runs rfl fun σ w' hx hg => ⟨_, runs_load (ρ := σ.eval) (w := w') (.tmp 26) rfl Try.underlying3 rfl hg.1, rfl⟩) ?_
    refine LinR.step (s := (.val (.int .i64 (k : Int)))) [(2, none)] rfl (by kernel_rfl) (op_out 2 (.int .i64 (k : Int)) rfl (.inl rfl) rfl) ?_
    refine LinR.step (s := (.val (.int .i64 ((2 ^ k : Nat) : Int)))) [(28, some 0)] rfl (by kernel_rfl) (op_runs rfl fun σ w' hx hg => ⟨_, runs_shl1 (ρ := σ.eval) (w := w') (.tmp 28) rfl rfl hg.1 hk, rfl⟩) ?_
    refine LinR.step (s := (.val (.int .i64 (bits .and .i64 d ((2 ^ k : Nat) : Int))))) [(27, some 2), (29, some 0)] rfl (by kernel_rfl) (op_runs rfl fun σ w' hx hg => ⟨_, runs_bits (ρ := σ.eval) (w := w') (.tmp 27) (.tmp 29) (.inl rfl) rfl hg.1 hg.2.1, rfl⟩) ?_
    refine LinR.step (s := (.val (.bool b))) [(30, some 0)] rfl (by kernel_rfl) (op_runs rfl fun σ w' hx hg => ⟨_, runs_ne0 (ρ := σ.eval) (w := w') (.tmp 30) rfl hg.1 rfl, by rw [hand.out]; rfl⟩) ?_
    refine LinR.step (s := (.val (.bool b))) [(31, some 0)] rfl (by kernel_rfl) (op_copy 31 0 _ rfl (.inr rfl) rfl) ?_
    intro wN hxN
    simp only [Fin', Sp.ptr, List.reverse_cons, List.reverse_nil, List.nil_append, List.cons_append]
    intro q hq
    simp only [Act.put, List.setIfInBounds_toArray, List.set_cons_zero, List.set_cons_succ]
    go_wp2
    go_ret
    exact Keep.intro ⟨_, rfl, (Ext.refl _).drew.trans hxN⟩
  · replace h0 := hide_ h0
    by_cases g1 : s < 1
    · have t1 : decide (s < 1) = true := by simpa using g1
      clear g g1
      go_enter Try.func34, Try.ntmps34
      go_wp2_with ((first
        | ((with_reducible refine at_bi ?_); (try refine w_yes _ _ _ rfl rfl rfl ?_); refine i_len _ rfl rfl (v := v) rfl h0.out ?_)
        | fail) <;> (try simp only [Act.put, List.setIfInBounds_toArray, List.set_cons_zero, List.set_cons_succ]))
      go_ret
      exact Keep.intro ⟨_, rfl, Ext.refl _⟩
    have t1 : decide (s < 1) = false := by simpa using g1
    by_cases g2 : (l.length : Int) < s
    · have t2 : decide ((l.length : Int) < s) = true := by simpa using g2
      clear g g1 g2
      go_enter Try.func34, Try.ntmps34
      go_wp2_with ((first
        | ((with_reducible refine at_bi ?_); (try refine w_yes _ _ _ rfl rfl rfl ?_); refine i_len _ rfl rfl (v := v) rfl h0.out ?_)
        | fail) <;> (try simp only [Act.put, List.setIfInBounds_toArray, List.set_cons_zero, List.set_cons_succ]))
      go_ret
      exact Keep.intro ⟨_, rfl, Ext.refl _⟩
    have t2 : decide ((l.length : Int) < s) = false := by simpa using g2
    by_cases g3 : n < 0
    · have t3 : decide (n < 0) = true := by simpa using g3
      clear g g1 g2 g3
      go_enter Try.func34, Try.ntmps34
      go_wp2_with ((first
        | ((with_reducible refine at_bi ?_); (try refine w_yes _ _ _ rfl rfl rfl ?_); refine i_len _ rfl rfl (v := v) rfl h0.out ?_)
        | fail) <;> (try simp only [Act.put, List.setIfInBounds_toArray, List.set_cons_zero, List.set_cons_succ]))
      go_ret
      exact Keep.intro ⟨_, rfl, Ext.refl _⟩
    have t3 : decide (n < 0) = false := by simpa using g3
    have t4 : decide (7 ≤ n) = true := by simp; omega
    clear g g1 g2 g3
    go_enter Try.func34, Try.ntmps34
    go_wp2_with ((first
      | ((with_reducible refine at_bi ?_); (try refine w_yes _ _ _ rfl rfl rfl ?_); refine i_len _ rfl rfl (v := v) rfl h0.out ?_)
      | fail) <;> (try simp only [Act.put, List.setIfInBounds_toArray, List.set_cons_zero, List.set_cons_succ]))
    go_ret
    exact Keep.intro ⟨_, rfl, Ext.refl _⟩

set_option maxRecDepth 100000 in
set_option maxHeartbeats 1600000 in
theorem Winners_free {w : World} {v : Value} {l : List Int} {s : Int} (h0 : Ints w v l) :
    Calls Try.prog 30 #[v, .int .i64 s] w fun e w' => ∃ v' W, e = .returned v' ∧ Ints w' v' W ∧ W.length ≤ 7 ∧ Ext w w' := by
  refine calls_keep ?_
  replace h0 := hide_ h0
  go_enter Try.func30, Try.ntmps30
  go_wp2
  go_loopw [5, 7] (fun out i wr => ∃ (k : Nat) (o : List Int), i = .int .i64 k ∧ k ≤ 7 ∧ o.length ≤ k ∧ Hid (OwnI w.heap.size wr out o) ∧ Ext w wr) (fun _ i _ => 7 - (RowKit.intOf i).toNat)
  case atStart => exact ⟨0, [], rfl, by omega, by simp, hide_ (OwnI.nil _ _), Ext.refl _⟩
  case round =>
    obtain ⟨k, o, rfl, hk, hol, ho, hX⟩ := hrel
    by_cases hlt : k < 7
    · have t2 : decide ((k : Int) < 7) = true := by simp; omega
      have hbig := hide_ (show (o.length + [(k : Int)].length) * 8 ≤ 140737488355328 from by simp; omega)
      have hol' := hide_ hol
      clear hol
      go_wp2_with ((first
        | (go_at_call 34; refine (Wins_free (h0.out.ext hX)).mono ?_; rintro e w4 ⟨b, rfl, hx⟩; replace hX := hX.trans hx; replace ho := hide_ (OwnI.ext ho.out hx); clear hx; cases b)
        | ((with_reducible refine at_lit ?_); refine w_new Try.elI (o := ⟨some 16, _, _, _, _, _⟩) (i64s [(k : Int)]) rfl rfl rfl (i64s_cells _) rfl (by omega) ?_; intro v3 w3 hx3 ho3; have o3 : OwnI _ w3 v3 [(k : Int)] := ho3; have i3 := o3.ints; replace ho := hide_ (OwnI.ext ho.out hx3); replace hX := hX.trans hx3; clear ho3 o3 hx3)
        | ((with_reducible refine at_bi ?_); refine appi _ _ rfl rfl rfl rfl ho.out i3 hbig.out hX.size ?_; intro v4 w4 ho4 hb4 hg4 hl4; replace hX := hX.trans' hb4; clear hb4 hg4 hl4 ho i3)
        | fail) <;> (try simp only [Act.put, List.setIfInBounds_toArray, List.set_cons_zero, List.set_cons_succ]))
      · go_roundw
        case rel => exact ⟨k + 1, o, by go_num, by omega, by have := hol'.out; omega, ho, hX⟩
        case measure => simp [RowKit.intOf]; omega
      · go_roundw
        case rel => exact ⟨k + 1, o ++ [(k : Int)], by go_num, by omega, by have := hol'.out; simp; omega, hide_ ho4, hX⟩
        case measure => simp [RowKit.intOf]; omega
    · obtain rfl : k = 7 := by omega
      go_wp2
      go_ret
      exact Keep.intro ⟨_, o, rfl, ho.out.ints, hol, hX⟩

theorem one_pos {W : List Int} {wl : Nat} (h0 : W.length = wl) (h : ((wl : Int) == 1) = true) : 0 < W.length := by
  have h1 : (wl : Int) = 1 := by simpa using h
  omega
set_option maxRecDepth 100000 in
set_option maxHeartbeats 3200000 in
theorem Single_free {w : World} {v u : Value} {l who : List Int} (h0 : Ints w v l) (hu : Ints w u who) :
    Calls Try.prog 28 #[v, u] w fun e w' => ∃ b, e = .returned (.bool b) ∧ Ext w w' := by
  refine calls_keep ?_
  have hX := Ext.refl w
  have hlen := h0.len_le
  unfold maxLen at hlen
  replace h0 := hide_ h0
  replace hu := hide_ hu
  go_enter Try.func28, Try.ntmps28
  go_wp2_with ((first
    | ((with_reducible refine at_bi ?_); (try refine w_yes _ _ _ rfl rfl rfl ?_); refine i_len _ rfl rfl (v := v) rfl (h0.out.ext hX) ?_)
    | fail) <;> (try simp only [Act.put, List.setIfInBounds_toArray, List.set_cons_zero, List.set_cons_succ]))
  go_loopw [9] (fun i wr => ∃ k : Nat, i = .int .i64 k ∧ k ≤ l.length ∧ Ext w wr) (fun i _ => l.length - (RowKit.intOf i).toNat)
  case atStart => exact ⟨0, rfl, by omega, hX⟩
  case round =>
    clear hX
    obtain ⟨k, rfl, hk, hX⟩ := hrel
    by_cases hlt : k < l.length
    · have t2 : decide ((k : Int) < (l.length : Int)) = true := by simp; omega
      have hlt' := hide_ hlt
      go_wp2_with ((first
        | (go_at_call 30; refine (Winners_free (h0.out.ext hX)).mono ?_; rintro e w4 ⟨vw, W, rfl, iw, hWl, hx⟩; obtain ⟨wl, hwl0⟩ : ∃ wl : Nat, W.length = wl := ⟨_, rfl⟩; have hwl := hide_ hwl0; have hpos := hide_ (fun h => one_pos hwl0 h); replace iw := hide_ iw; replace hX := hX.trans hx; clear hx hWl hwl0; cases t3 : decide ((1 : Int) < (wl : Int)) <;> cases t4 : ((wl : Int) == 1))
        | (go_at_call 55; refine (Contains_any (hu.out.ext hX)).mono ?_; rintro e w5 ⟨rfl, hx⟩; replace hX := hX.trans hx; clear hx; generalize decide (_ ∈ who) = bq; cases bq)
        | ((with_reducible refine at_bi ?_); (try refine w_yes _ _ _ rfl rfl rfl ?_); refine i_len _ rfl rfl (v := vw) rfl iw.out ?_; rw [hwl.out])
        | ((with_reducible refine at_idx ?_); (try refine w_yes _ _ _ rfl rfl rfl ?_); refine i_idx _ _ 0 rfl rfl (v := vw) rfl iw.out rfl (hpos.out t4) ?_; intro ad had; generalize W[0]'(hpos.out t4) = x at had)
        | fail) <;> (try simp only [Act.put, List.setIfInBounds_toArray, List.set_cons_zero, List.set_cons_succ]))
      all_goals first
        | (go_ret; exact Keep.intro ⟨_, rfl, hX⟩)
        | (go_roundw
           case rel => exact ⟨k + 1, by go_num, hlt'.out, hX⟩
           case measure => have := hlt'.out; simp [RowKit.intOf]; omega)
    · obtain rfl : k = l.length := by omega
      have t2 : decide ((l.length : Int) < (l.length : Int)) = false := by simp
      go_wp2
      go_ret
      exact Keep.intro ⟨_, rfl, hX⟩
end Go.Proofs.Ytpnbkgeglgiihaa
