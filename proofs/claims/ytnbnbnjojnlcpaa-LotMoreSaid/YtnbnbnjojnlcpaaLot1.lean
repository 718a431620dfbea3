/- The contracts of lot.Wins, Winners, Slots. Condition: draws that can be. -/
import Derived.Test.YtnbnbnjojnlcpaaLot0
namespace Go.Proofs.Ytnbnbnjojnlcpaa
open Go.RowKit

set_option maxRecDepth 100000 in
set_option maxHeartbeats 1600000 in
theorem Wins_any {w : World} {v : Value} {l : List Int} {s n : Int} (hD : DrOk l) (h0 : Ints w v l) :
    Calls Try.prog 11 #[v, .int .i64 s, .int .i64 n] w fun e w' => e = .returned (.bool (win l s n)) ∧ Ext w w' := by
  refine calls_keep ?_
  by_cases g : 1 ≤ s ∧ s ≤ l.length ∧ 0 ≤ n ∧ n ≤ 6
  · obtain ⟨i, rfl⟩ : ∃ i : Nat, s = (i : Int) + 1 := ⟨(s - 1).toNat, by omega⟩
    obtain ⟨k, rfl⟩ : ∃ k : Nat, n = (k : Int) := ⟨n.toNat, by omega⟩
    have hlt : i < l.length := by omega
    have hk : k < 7 := by omega
    have hlen := hD.1
    have hd := hD.at hlt
    rw [win_at hlt hk]
    obtain ⟨d, hd0⟩ : ∃ d, l[i] = d := ⟨_, rfl⟩
    obtain ⟨b, hb⟩ : ∃ b, bitN l[i] k = b := ⟨_, rfl⟩
    rw [hb]
    rw [hd0] at hd hb
    have hand := hide_ (show (bits .and .i64 d ((2 ^ k : Nat) : Int) != 0) = b from by
      have := and_bit d.toNat k (by omega) hk
      rw [show ((d.toNat : Nat) : Int) = d from by omega] at this
      rw [this, hb])
    have hx := hide_ hd0
    have t1 : decide ((i : Int) + 1 < 1) = false := by simp; omega
    have t2 : decide ((l.length : Int) < (i : Int) + 1) = false := by simp; omega
    have t3 : decide ((k : Int) < 0) = false := by simp
    have t4 : decide (7 ≤ (k : Int)) = false := by simp; omega
    have hwi := hide_ (show IntKind.i64.wrap (i : Int) = (i : Int) from by simp [IntKind.wrap, IntKind.signed, IntKind.bits]; omega)
    have K0 := hide_ (h0.ext (Ext.refl w).drew)
    replace h0 := hide_ h0
    clear g hD hb hd0 hd
    go_enter Try.func11, Try.ntmps11
    go_wp2_with ((first
      | ((with_reducible refine at_bi ?_); (try refine w_yes _ _ _ rfl rfl rfl ?_); refine i_len _ rfl rfl (v := v) rfl h0.out ?_)
      | fail) <;> (try simp only [Act.put, List.setIfInBounds_toArray, List.set_cons_zero, List.set_cons_succ]))
    refine wp_region_linR (by kernel_rfl) (by kernel_rfl) ?_
    refine LinR.step (s := (.val v)) [(0, none)] rfl (by kernel_rfl) (op_out 0 v rfl (.inl rfl) rfl) ?_
    refine LinR.step (s := (.val (.int .i64 ((i : Int) + 1)))) [(1, none)] rfl (by kernel_rfl) (op_out 1 (.int .i64 ((i : Int) + 1)) rfl (.inl rfl) rfl) ?_
    refine LinR.step (s := (.val (.int .i64 (i : Int)))) [(24, some 0)] rfl (by kernel_rfl) (op_runs rfl fun σ w' hx hg => ⟨(.int .i64 (i : Int)), by have h24 : σ.tmps.getD 24 undef = .int .i64 ((i : Int) + 1) := hg.1; unfold Runs execOp; simp [Act.eval, h24, go_sem, hwi.out], rfl⟩) ?_
    refine LinR.step (s := (Sp.ptr (.int .i64 d))) [(23, some 2), (25, some 0)] rfl (by kernel_rfl) (op_runs rfl fun σ w' hx' hg => rptri (ρ := σ.eval) (w := w') (.tmp 23) (.tmp 25) rfl (hg.1) (K0.out.ext hx') i hg.2.1 hlt hx.out) ?_
    refine LinR.step (s := (.val (.int .i64 d))) [(26, some 0)] rfl (by kernel_rfl) (op_runs rfl fun σ w' hx hg => ⟨_, runs_load (ρ := σ.eval) (w := w') (.tmp 26) rfl Try.underlying3 rfl hg.1, rfl⟩) ?_
    refine LinR.step (s := (.val (.int .i64 (k : Int)))) [(2, none)] rfl (by kernel_rfl) (op_out 2 (.int .i64 (k : Int)) rfl (.inl rfl) rfl) ?_
    refine LinR.step (s := (.val (.int .i64 ((2 ^ k : Nat) : Int)))) [(28, some 0)] rfl (by kernel_rfl) (op_runs rfl fun σ w' hx hg => ⟨_, runs_shl1 (ρ := σ.eval) (w := w') (.tmp 28) rfl rfl hg.1 hk, rfl⟩) ?_
    refine LinR.step (s := (.val (.int .i64 (bits .and .i64 d ((2 ^ k : Nat) : Int))))) [(27, some 2), (29, some 0)] rfl (by kernel_rfl) (op_runs rfl fun σ w' hx hg => ⟨_, runs_bits (ρ := σ.eval) (w := w') (.tmp 27) (.tmp 29) (.inl rfl) rfl hg.1 hg.2.1, rfl⟩) ?_
    refine LinR.step (s := (.val (.bool b))) [(30, some 0)] rfl (by kernel_rfl) (op_runs rfl fun σ w' hx hg => ⟨_, runs_ne0 (ρ := σ.eval) (w := w') (.tmp 30) rfl hg.1 rfl, by rw [hand.out]; rfl⟩) ?_
    refine LinR.step (s := (.val (.bool b))) [(31, some 0)] rfl (by kernel_rfl) (op_copy 31 0 _ rfl (.inr rfl) rfl) ?_
    intro wN hxN
    simp only [Fin', Sp.ptr, List.reverse_cons, List.reverse_nil, List.nil_append, List.cons_append]
    intro q hq
    simp only [Act.put, List.setIfInBounds_toArray, List.set_cons_zero, List.set_cons_succ]
    go_wp2
    go_ret
    exact Keep.intro ⟨rfl, (Ext.refl w).drew.trans hxN⟩
  · rw [win_out g]
    replace h0 := hide_ h0
    by_cases g1 : s < 1
    · have t1 : decide (s < 1) = true := by simpa using g1
      clear g g1
      go_enter Try.func11, Try.ntmps11
      go_wp2_with ((first
        | ((with_reducible refine at_bi ?_); (try refine w_yes _ _ _ rfl rfl rfl ?_); refine i_len _ rfl rfl (v := v) rfl h0.out ?_)
        | fail) <;> (try simp only [Act.put, List.setIfInBounds_toArray, List.set_cons_zero, List.set_cons_succ]))
      go_ret
      exact Keep.intro ⟨rfl, Ext.refl _⟩
    have t1 : decide (s < 1) = false := by simpa using g1
    by_cases g2 : (l.length : Int) < s
    · have t2 : decide ((l.length : Int) < s) = true := by simpa using g2
      clear g g1 g2
      go_enter Try.func11, Try.ntmps11
      go_wp2_with ((first
        | ((with_reducible refine at_bi ?_); (try refine w_yes _ _ _ rfl rfl rfl ?_); refine i_len _ rfl rfl (v := v) rfl h0.out ?_)
        | fail) <;> (try simp only [Act.put, List.setIfInBounds_toArray, List.set_cons_zero, List.set_cons_succ]))
      go_ret
      exact Keep.intro ⟨rfl, Ext.refl _⟩
    have t2 : decide ((l.length : Int) < s) = false := by simpa using g2
    by_cases g3 : n < 0
    · have t3 : decide (n < 0) = true := by simpa using g3
      clear g g1 g2 g3
      go_enter Try.func11, Try.ntmps11
      go_wp2_with ((first
        | ((with_reducible refine at_bi ?_); (try refine w_yes _ _ _ rfl rfl rfl ?_); refine i_len _ rfl rfl (v := v) rfl h0.out ?_)
        | fail) <;> (try simp only [Act.put, List.setIfInBounds_toArray, List.set_cons_zero, List.set_cons_succ]))
      go_ret
      exact Keep.intro ⟨rfl, Ext.refl _⟩
    have t3 : decide (n < 0) = false := by simpa using g3
    have t4 : decide (7 ≤ n) = true := by simp; omega
    clear g g1 g2 g3
    go_enter Try.func11, Try.ntmps11
    go_wp2_with ((first
      | ((with_reducible refine at_bi ?_); (try refine w_yes _ _ _ rfl rfl rfl ?_); refine i_len _ rfl rfl (v := v) rfl h0.out ?_)
      | fail) <;> (try simp only [Act.put, List.setIfInBounds_toArray, List.set_cons_zero, List.set_cons_succ]))
    go_ret
    exact Keep.intro ⟨rfl, Ext.refl _⟩

set_option maxRecDepth 100000 in
set_option maxHeartbeats 1600000 in
theorem Winners_own {w : World} {v : Value} {l : List Int} {s : Int} (hD : DrOk l) (h0 : Ints w v l) :
    Calls Try.prog 15 #[v, .int .i64 s] w fun e w' => ∃ v', e = .returned v' ∧ OwnI w.heap.size w' v' (wns l s) ∧ Ext w w' := by
  refine calls_keep ?_
  replace h0 := hide_ h0
  replace hD := hide_ hD
  obtain ⟨p, hp0⟩ : ∃ p : Nat → Bool, p = fun i : Nat => win l s (i : Int) := ⟨_, rfl⟩
  have hp := hide_ (show ∀ k : Nat, win l s k = p k from fun k => by rw [hp0])
  have hr := hide_ (show wns l s = pk 0 p 7 from by rw [hp0]; rfl)
  clear hp0
  go_enter Try.func15, Try.ntmps15
  go_wp2
  go_loopw [5, 7] (fun out i wr => ∃ k : Nat, i = .int .i64 k ∧ k ≤ 7 ∧ Hid (OwnI w.heap.size wr out (pk 0 p k)) ∧ Ext w wr) (fun _ i _ => 7 - (RowKit.intOf i).toNat)
  case atStart => exact ⟨0, rfl, by omega, hide_ (OwnI.nil _ _), Ext.refl _⟩
  case round =>
    obtain ⟨k, rfl, hk, ho, hX⟩ := hrel
    by_cases hlt : k < 7
    · have t2 : decide ((k : Int) < 7) = true := by simp; omega
      have Hlen := hide_ (pk_len (c := 0) (p := p) k)
      cases hb : p k
      · have Hp := hide_ (pk_no (c := 0) hb)
        have hb' := hide_ hb
        clear hb
        go_wp2_with (first
          | (go_at_call 11; refine (Wins_any hD.out (h0.out.ext hX)).mono ?_; rintro e w4 ⟨rfl, hx⟩; rw [hp.out, hb'.out]; replace hX := hX.trans hx; replace ho := hide_ (OwnI.ext ho.out hx); clear hx)
          | fail)
        go_roundw
        case rel => exact ⟨k + 1, by go_num, by omega, by rw [Hp.out]; exact ho, hX⟩
        case measure => simp [RowKit.intOf]; omega
      · have Hp := hide_ (pk_yes (c := 0) hb)
        have hb' := hide_ hb
        clear hb
        go_wp2_with ((first
          | (go_at_call 11; refine (Wins_any hD.out (h0.out.ext hX)).mono ?_; rintro e w4 ⟨rfl, hx⟩; rw [hp.out, hb'.out]; replace hX := hX.trans hx; replace ho := hide_ (OwnI.ext ho.out hx); clear hx)
          | ((with_reducible refine at_lit ?_); refine w_new Try.elI (o := ⟨some 16, _, _, _, _, _⟩) (i64s [(k : Int)]) rfl rfl rfl (i64s_cells _) rfl (by omega) ?_; intro v3 w3 hx3 ho3; have o3 : OwnI _ w3 v3 [(k : Int)] := ho3; have i3 := o3.ints; replace ho := hide_ (OwnI.ext ho.out hx3); replace hX := hX.trans hx3; clear ho3 o3 hx3)
          | ((with_reducible refine at_bi ?_); refine appi _ _ rfl rfl rfl rfl ho.out i3 (by have := Hlen.out; simp; omega) hX.size ?_; intro v4 w4 ho4 hb4 hg4 hl4; replace hX := hX.trans' hb4; clear hb4 hg4 hl4 ho i3)
          | fail) <;> (try simp only [Act.put, List.setIfInBounds_toArray, List.set_cons_zero, List.set_cons_succ]))
        go_roundw
        case rel => exact ⟨k + 1, by go_num, by omega, by rw [Hp.out]; exact ho4, hX⟩
        case measure => simp [RowKit.intOf]; omega
    · obtain rfl : k = 7 := by omega
      go_wp2
      go_ret
      exact Keep.intro ⟨_, rfl, by rw [hr.out]; exact ho.out, hX⟩

set_option maxRecDepth 100000 in
set_option maxHeartbeats 1600000 in
theorem Slots_own {w : World} {v : Value} {l : List Int} {n : Int} (hD : DrOk l) (h0 : Ints w v l) :
    Calls Try.prog 17 #[v, .int .i64 n] w fun e w' => ∃ v', e = .returned v' ∧ OwnI w.heap.size w' v' (sls l n) ∧ Ext w w' := by
  refine calls_keep ?_
  replace h0 := hide_ h0
  have hlen := hD.1
  replace hD := hide_ hD
  obtain ⟨p, hp0⟩ : ∃ p : Nat → Bool, p = fun i : Nat => win l ((i + 1 : Nat) : Int) n := ⟨_, rfl⟩
  have hp := hide_ (show ∀ k : Nat, win l ((k : Int) + 1) n = p k from fun k => by rw [hp0]; rfl)
  have hr := hide_ (show sls l n = pk 1 p l.length from by rw [hp0]; rfl)
  clear hp0
  go_enter Try.func17, Try.ntmps17
  go_wp2_with ((first
    | ((with_reducible refine at_bi ?_); (try refine w_yes _ _ _ rfl rfl rfl ?_); refine i_len _ rfl rfl (v := v) rfl h0.out ?_)
    | fail) <;> (try simp only [Act.put, List.setIfInBounds_toArray, List.set_cons_zero, List.set_cons_succ]))
  go_loopw [5, 9] (fun out i wr => ∃ k : Nat, i = .int .i64 k ∧ k ≤ l.length ∧ Hid (OwnI w.heap.size wr out (pk 1 p k)) ∧ Ext w wr) (fun _ i _ => l.length - (RowKit.intOf i).toNat)
  case atStart => exact ⟨0, rfl, by omega, hide_ (OwnI.nil _ _), Ext.refl _⟩
  case round =>
    obtain ⟨k, rfl, hk, ho, hX⟩ := hrel
    by_cases hlt : k < l.length
    · have t2 : decide ((k : Int) < (l.length : Int)) = true := by simp; omega
      have Hlen := hide_ (pk_len (c := 1) (p := p) k)
      cases hb : p k
      · have Hp := hide_ (pk_no (c := 1) hb)
        have hb' := hide_ hb
        clear hb
        go_wp2_with (first
          | (go_at_call 11; refine (Wins_any hD.out (h0.out.ext hX)).mono ?_; rintro e w4 ⟨rfl, hx⟩; rw [hp.out, hb'.out]; replace hX := hX.trans hx; replace ho := hide_ (OwnI.ext ho.out hx); clear hx)
          | fail)
        go_roundw
        case rel => exact ⟨k + 1, by go_num, by omega, by rw [Hp.out]; exact ho, hX⟩
        case measure => simp [RowKit.intOf]; omega
      · have Hp := hide_ (pk_yes (c := 1) hb)
        have hb' := hide_ hb
        clear hb
        go_wp2_with ((first
          | (go_at_call 11; refine (Wins_any hD.out (h0.out.ext hX)).mono ?_; rintro e w4 ⟨rfl, hx⟩; rw [hp.out, hb'.out]; replace hX := hX.trans hx; replace ho := hide_ (OwnI.ext ho.out hx); clear hx)
          | ((with_reducible refine at_lit ?_); refine w_new Try.elI (o := ⟨some 20, _, _, _, _, _⟩) (i64s [((k + 1 : Nat) : Int)]) rfl rfl rfl (i64s_cells _) rfl (by omega) ?_; intro v3 w3 hx3 ho3; have o3 : OwnI _ w3 v3 [((k + 1 : Nat) : Int)] := ho3; have i3 := o3.ints; replace ho := hide_ (OwnI.ext ho.out hx3); replace hX := hX.trans hx3; clear ho3 o3 hx3)
          | ((with_reducible refine at_bi ?_); refine appi _ _ rfl rfl rfl rfl ho.out i3 (by have := Hlen.out; simp; omega) hX.size ?_; intro v4 w4 ho4 hb4 hg4 hl4; replace hX := hX.trans' hb4; clear hb4 hg4 hl4 ho i3)
          | fail) <;> (try simp only [Act.put, List.setIfInBounds_toArray, List.set_cons_zero, List.set_cons_succ]))
        go_roundw
        case rel => exact ⟨k + 1, by go_num, by omega, by rw [Hp.out]; exact ho4, hX⟩
        case measure => simp [RowKit.intOf]; omega
    · obtain rfl : k = l.length := by omega
      have t2 : decide ((l.length : Int) < (l.length : Int)) = false := by simp
      go_wp2
      go_ret
      exact Keep.intro ⟨_, rfl, by rw [hr.out]; exact ho.out, hX⟩
theorem Winners_any {w : World} {v : Value} {l : List Int} {s : Int} (hD : DrOk l) (h0 : Ints w v l) :
    Calls Try.prog 15 #[v, .int .i64 s] w fun e w' => ∃ v', e = .returned v' ∧ Ints w' v' (wns l s) ∧ Ext w w' :=
  (Winners_own hD h0).mono fun _ _ ⟨v', h1, h2, h3⟩ => ⟨v', h1, h2.ints, h3⟩
theorem Slots_any {w : World} {v : Value} {l : List Int} {n : Int} (hD : DrOk l) (h0 : Ints w v l) :
    Calls Try.prog 17 #[v, .int .i64 n] w fun e w' => ∃ v', e = .returned v' ∧ Ints w' v' (sls l n) ∧ Ext w w' :=
  (Slots_own hD h0).mono fun _ _ ⟨v', h1, h2, h3⟩ => ⟨v', h1, h2.ints, h3⟩
end Go.Proofs.Ytnbnbnjojnlcpaa
