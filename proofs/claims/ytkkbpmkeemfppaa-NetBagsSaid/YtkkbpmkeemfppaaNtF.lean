/- To whom a packet goes, by the program and by the document. -/
import Derived.Test.YtkkbpmkeemfppaaNtE
namespace Go.Proofs.Ytkkbpmkeemfppaa
open Go.RowKit

set_option maxRecDepth 100000 in
set_option maxHeartbeats 3200000 in
theorem Spread_any {to fr n : Int} (hn64 : -9223372036854775808 ≤ n) {w : World} : Calls Try.prog 26 #[.int .i64 to, .int .i64 fr, .int .i64 n] w fun e w' => ∃ v, e = .returned v ∧ OwnI w.heap.size w' v (spr to fr n) ∧ Ext w w' := by
  refine calls_keep ?_
  by_cases h7 : n ≤ 7
  rotate_left
  · have t1 : decide ((7 : Int) < n) = true := decide_eq_true (by omega)
    have hs := hide_ (show spr to fr n = [] from if_neg h7)
    have hX := Ext.refl w
    rw [hs.out]
    clear h7
    go_enter Try.func26, Try.ntmps26
    go_wp2
    go_ret
    exact Keep.intro ⟨_, rfl, OwnI.nil _ _, hX⟩
  have t1 : decide ((7 : Int) < n) = false := decide_eq_false (by omega)
  have hs := hide_ (show spr to fr n = goN to fr n.toNat from if_pos h7)
  have h7' := hide_ h7
  have hX := Ext.refl w
  rw [hs.out]
  clear h7
  go_enter Try.func26, Try.ntmps26
  go_wp2
  go_loopw [7, 12] (fun vl i wr => ∃ (k : Nat) (v : Value), i = .int .i64 k ∧ vl = v ∧ OwnI w.heap.size wr v (goN to fr k) ∧ Ext w wr ∧ k ≤ n.toNat) (fun _ i _ => n.toNat - (RowKit.intOf i).toNat)
  case atStart => exact ⟨0, _, rfl, rfl, OwnI.nil _ _, hX, Nat.zero_le _⟩
  case round =>
    clear hX
    obtain ⟨k, v, rfl, rfl, hl, hX, hk⟩ := hrel
    have hs0 := hide_ hX.size
    by_cases hge : n.toNat ≤ k
    · obtain rfl : k = n.toNat := by omega
      have t2 : decide (((n.toNat : Nat) : Int) < n) = false := decide_eq_false (by omega)
      clear hge
      go_wp2
      go_ret
      exact Keep.intro ⟨_, rfl, hl, hX⟩
    have hlt : k < n.toNat := by omega
    have h7n := h7'.out
    have hk7 : k < 7 := by omega
    have t2 : decide ((k : Int) < n) = true := decide_eq_true (by omega)
    have hk' := hide_ (show k + 1 ≤ n.toNat by omega)
    have hroom := hide_ (show ((goN to fr k).length + [(k : Int)].length) * 8 ≤ 140737488355328 from by have := goN_len to fr k; simp; omega)
    clear hge hlt hk h7n
    rcases hw : ((k : Int) == fr, to == -1, to == (k : Int)) with ⟨b1, b2, b3⟩
    simp only [Prod.mk.injEq] at hw
    obtain ⟨c1, c2, c3⟩ := hw
    have hways : b1 = true ∨ (b1 = false ∧ b2 = true) ∨ (b1 = false ∧ b2 = false ∧ b3 = true) ∨ (b1 = false ∧ b2 = false ∧ b3 = false) := by cases b1 <;> cases b2 <;> cases b3 <;> simp
    rcases hways with rfl | ⟨rfl, rfl⟩ | ⟨rfl, rfl, rfl⟩ | ⟨rfl, rfl, rfl⟩
    · skip
      have hgo := hide_ (show goesTo to fr k = false from by unfold goesTo; rw [bne, c1]; rfl)
      have c4 : ((k : Int) != fr) = false := by rw [bne, c1]; rfl
      go_wp2_with (first
        | go_big_skip
        | fail)
      go_roundw
      case rel => exact ⟨k + 1, _, by go_num, rfl, (by rw [goN, if_neg (by rw [hgo.out]; decide)]; exact hl), hX, hk'.out⟩
      case measure => have := hk'.out; simp [RowKit.intOf]; omega
    · skip
      have hgo := hide_ (show goesTo to fr k = true from by unfold goesTo; rw [bne, c1, c2]; rfl)
      have c4 : ((k : Int) != fr) = true := by rw [bne, c1]; rfl
      go_wp2_with ((first
        | go_big_skip
        | ((with_reducible refine at_lit ?_); refine w_new Try.elI (i64s [(k : Int)]) rfl rfl rfl (i64s_cells _) rfl (by omega) ?_; intro v6 w6 hx6 o6; replace o6 : OwnI _ w6 v6 [(k : Int)] := o6; replace hl := hl.ext hx6; have hs6 := hide_ (Nat.le_trans hs0.out hx6.size); replace hX := hX.trans hx6; clear hx6)
        | ((with_reducible refine at_bi ?_); refine appi _ _ rfl rfl rfl rfl hl o6.ints hroom.out hs6.out ?_; intro v7 w7 hl7 hb7 _ _; replace hX := hide_ (hX.trans' hb7); clear o6 hl; replace hl7 := hide_ hl7)
        | fail) <;> (try simp only [Act.put, List.setIfInBounds_toArray, List.set_cons_zero, List.set_cons_succ]))
      go_roundw
      case rel => exact ⟨k + 1, _, by go_num, rfl, (by rw [goN, if_pos hgo.out]; exact hl7.out), hX.out, hk'.out⟩
      case measure => have := hk'.out; simp [RowKit.intOf]; omega
    · skip
      have hgo := hide_ (show goesTo to fr k = true from by unfold goesTo; rw [bne, c1, c2, c3]; rfl)
      have c4 : ((k : Int) != fr) = true := by rw [bne, c1]; rfl
      have c5 : ((k : Int) == to) = true := by rw [Bool.beq_comm]; exact c3
      go_wp2_with ((first
        | go_big_skip
        | ((with_reducible refine at_lit ?_); refine w_new Try.elI (i64s [(k : Int)]) rfl rfl rfl (i64s_cells _) rfl (by omega) ?_; intro v6 w6 hx6 o6; replace o6 : OwnI _ w6 v6 [(k : Int)] := o6; replace hl := hl.ext hx6; have hs6 := hide_ (Nat.le_trans hs0.out hx6.size); replace hX := hX.trans hx6; clear hx6)
        | ((with_reducible refine at_bi ?_); refine appi _ _ rfl rfl rfl rfl hl o6.ints hroom.out hs6.out ?_; intro v7 w7 hl7 hb7 _ _; replace hX := hide_ (hX.trans' hb7); clear o6 hl; replace hl7 := hide_ hl7)
        | fail) <;> (try simp only [Act.put, List.setIfInBounds_toArray, List.set_cons_zero, List.set_cons_succ]))
      go_roundw
      case rel => exact ⟨k + 1, _, by go_num, rfl, (by rw [goN, if_pos hgo.out]; exact hl7.out), hX.out, hk'.out⟩
      case measure => have := hk'.out; simp [RowKit.intOf]; omega
    · skip
      have hgo := hide_ (show goesTo to fr k = false from by unfold goesTo; rw [bne, c1, c2, c3]; rfl)
      have c4 : ((k : Int) != fr) = true := by rw [bne, c1]; rfl
      have c5 : ((k : Int) == to) = false := by rw [Bool.beq_comm]; exact c3
      go_wp2_with (first
        | go_big_skip
        | fail)
      go_roundw
      case rel => exact ⟨k + 1, _, by go_num, rfl, (by rw [goN, if_neg (by rw [hgo.out]; decide)]; exact hl), hX, hk'.out⟩
      case measure => have := hk'.out; simp [RowKit.intOf]; omega
set_option maxRecDepth 100000 in
set_option maxHeartbeats 3200000 in
theorem refSpread_any {to fr n : Int} (hn64 : -9223372036854775808 ≤ n) {w : World} : Calls Try.prog 27 #[.int .i64 to, .int .i64 fr, .int .i64 n] w fun e w' => ∃ v, e = .returned v ∧ OwnI w.heap.size w' v (spr to fr n) ∧ Ext w w' := by
  refine calls_keep ?_
  by_cases h7 : n ≤ 7
  rotate_left
  · have t1 : decide ((7 : Int) < n) = true := decide_eq_true (by omega)
    have hs := hide_ (show spr to fr n = [] from if_neg h7)
    have hX := Ext.refl w
    rw [hs.out]
    clear h7
    go_enter Try.func27, Try.ntmps27
    go_wp2_with ((first
      | ((with_reducible refine at_lit ?_); refine w_new Try.elI (i64s []) rfl rfl rfl (i64s_cells _) rfl (by omega) ?_; intro v1 w1 hx1 o1; replace o1 : OwnI _ w1 v1 [] := o1; replace hX := hX.trans hx1; clear hx1)
      | fail) <;> (try simp only [Act.put, List.setIfInBounds_toArray, List.set_cons_zero, List.set_cons_succ]))
    go_ret
    exact Keep.intro ⟨_, rfl, o1, hX⟩
  have t1 : decide ((7 : Int) < n) = false := decide_eq_false (by omega)
  have hs := hide_ (show spr to fr n = goN to fr n.toNat from if_pos h7)
  have h7' := hide_ h7
  have hX := Ext.refl w
  rw [hs.out]
  clear h7
  go_enter Try.func27, Try.ntmps27
  go_wp2_with ((first
    | ((with_reducible refine at_lit ?_); refine w_new Try.elI (i64s []) rfl rfl rfl (i64s_cells _) rfl (by omega) ?_; intro v1 w1 hx1 o1; replace o1 : OwnI _ w1 v1 [] := o1; replace hX := hX.trans hx1; clear hx1)
    | fail) <;> (try simp only [Act.put, List.setIfInBounds_toArray, List.set_cons_zero, List.set_cons_succ]))
  go_loopw [7, 8] (fun vl i wr => ∃ (k : Nat) (v : Value), i = .int .i64 k ∧ vl = v ∧ OwnI w.heap.size wr v (goN to fr k) ∧ Ext w wr ∧ k ≤ n.toNat) (fun _ i _ => n.toNat - (RowKit.intOf i).toNat)
  case atStart => exact ⟨0, _, rfl, rfl, o1, hX, Nat.zero_le _⟩
  case round =>
    clear hX o1
    obtain ⟨k, v, rfl, rfl, hl, hX, hk⟩ := hrel
    have hs0 := hide_ hX.size
    by_cases hge : n.toNat ≤ k
    · obtain rfl : k = n.toNat := by omega
      have t2 : decide (((n.toNat : Nat) : Int) < n) = false := decide_eq_false (by omega)
      clear hge
      go_wp2
      go_ret
      exact Keep.intro ⟨_, rfl, hl, hX⟩
    have hlt : k < n.toNat := by omega
    have h7n := h7'.out
    have hk7 : k < 7 := by omega
    have t2 : decide ((k : Int) < n) = true := decide_eq_true (by omega)
    have hk' := hide_ (show k + 1 ≤ n.toNat by omega)
    have hroom := hide_ (show ((goN to fr k).length + [(k : Int)].length) * 8 ≤ 140737488355328 from by have := goN_len to fr k; simp; omega)
    clear hge hlt hk h7n
    rcases hw : ((k : Int) == fr, to == -1, to == (k : Int)) with ⟨b1, b2, b3⟩
    simp only [Prod.mk.injEq] at hw
    obtain ⟨c1, c2, c3⟩ := hw
    have hways : b1 = true ∨ (b1 = false ∧ b2 = true) ∨ (b1 = false ∧ b2 = false ∧ b3 = true) ∨ (b1 = false ∧ b2 = false ∧ b3 = false) := by cases b1 <;> cases b2 <;> cases b3 <;> simp
    rcases hways with rfl | ⟨rfl, rfl⟩ | ⟨rfl, rfl, rfl⟩ | ⟨rfl, rfl, rfl⟩
    · skip
      have hgo := hide_ (show goesTo to fr k = false from by unfold goesTo; rw [bne, c1]; rfl)
      have c4 : ((k : Int) != fr) = false := by rw [bne, c1]; rfl
      go_wp2_with (first
        | go_big_skip
        | fail)
      go_roundw
      case rel => exact ⟨k + 1, _, by go_num, rfl, (by rw [goN, if_neg (by rw [hgo.out]; decide)]; exact hl), hX, hk'.out⟩
      case measure => have := hk'.out; simp [RowKit.intOf]; omega
    · skip
      have hgo := hide_ (show goesTo to fr k = true from by unfold goesTo; rw [bne, c1, c2]; rfl)
      have c4 : ((k : Int) != fr) = true := by rw [bne, c1]; rfl
      go_wp2_with ((first
        | go_big_skip
        | ((with_reducible refine at_lit ?_); refine w_new Try.elI (i64s [(k : Int)]) rfl rfl rfl (i64s_cells _) rfl (by omega) ?_; intro v6 w6 hx6 o6; replace o6 : OwnI _ w6 v6 [(k : Int)] := o6; replace hl := hl.ext hx6; have hs6 := hide_ (Nat.le_trans hs0.out hx6.size); replace hX := hX.trans hx6; clear hx6)
        | ((with_reducible refine at_bi ?_); refine appi _ _ rfl rfl rfl rfl hl o6.ints hroom.out hs6.out ?_; intro v7 w7 hl7 hb7 _ _; replace hX := hide_ (hX.trans' hb7); clear o6 hl; replace hl7 := hide_ hl7)
        | fail) <;> (try simp only [Act.put, List.setIfInBounds_toArray, List.set_cons_zero, List.set_cons_succ]))
      go_roundw
      case rel => exact ⟨k + 1, _, by go_num, rfl, (by rw [goN, if_pos hgo.out]; exact hl7.out), hX.out, hk'.out⟩
      case measure => have := hk'.out; simp [RowKit.intOf]; omega
    · skip
      have hgo := hide_ (show goesTo to fr k = true from by unfold goesTo; rw [bne, c1, c2, c3]; rfl)
      have c4 : ((k : Int) != fr) = true := by rw [bne, c1]; rfl
      have c5 : ((k : Int) == to) = true := by rw [Bool.beq_comm]; exact c3
      go_wp2_with ((first
        | go_big_skip
        | ((with_reducible refine at_lit ?_); refine w_new Try.elI (i64s [(k : Int)]) rfl rfl rfl (i64s_cells _) rfl (by omega) ?_; intro v6 w6 hx6 o6; replace o6 : OwnI _ w6 v6 [(k : Int)] := o6; replace hl := hl.ext hx6; have hs6 := hide_ (Nat.le_trans hs0.out hx6.size); replace hX := hX.trans hx6; clear hx6)
        | ((with_reducible refine at_bi ?_); refine appi _ _ rfl rfl rfl rfl hl o6.ints hroom.out hs6.out ?_; intro v7 w7 hl7 hb7 _ _; replace hX := hide_ (hX.trans' hb7); clear o6 hl; replace hl7 := hide_ hl7)
        | fail) <;> (try simp only [Act.put, List.setIfInBounds_toArray, List.set_cons_zero, List.set_cons_succ]))
      go_roundw
      case rel => exact ⟨k + 1, _, by go_num, rfl, (by rw [goN, if_pos hgo.out]; exact hl7.out), hX.out, hk'.out⟩
      case measure => have := hk'.out; simp [RowKit.intOf]; omega
    · skip
      have hgo := hide_ (show goesTo to fr k = false from by unfold goesTo; rw [bne, c1, c2, c3]; rfl)
      have c4 : ((k : Int) != fr) = true := by rw [bne, c1]; rfl
      have c5 : ((k : Int) == to) = false := by rw [Bool.beq_comm]; exact c3
      go_wp2_with (first
        | go_big_skip
        | fail)
      go_roundw
      case rel => exact ⟨k + 1, _, by go_num, rfl, (by rw [goN, if_neg (by rw [hgo.out]; decide)]; exact hl), hX, hk'.out⟩
      case measure => have := hk'.out; simp [RowKit.intOf]; omega
end Go.Proofs.Ytkkbpmkeemfppaa
