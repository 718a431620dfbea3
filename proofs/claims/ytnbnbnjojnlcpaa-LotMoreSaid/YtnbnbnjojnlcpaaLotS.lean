/- The contracts of the document's Winners, Slots, Single. Condition: draws that can be. -/
import Derived.Test.YtnbnbnjojnlcpaaLotR
namespace Go.Proofs.Ytnbnbnjojnlcpaa
open Go.RowKit

set_option maxRecDepth 100000 in
set_option maxHeartbeats 1600000 in
theorem refWinners_any {w : World} {v : Value} {l : List Int} {s : Int} (hD : DrOk l) (h0 : Ints w v l) :
    Calls Try.prog 16 #[v, .int .i64 s] w fun e w' => ∃ v', e = .returned v' ∧ Ints w' v' (wns l s) ∧ Ext w w' := by
  refine calls_keep ?_
  replace h0 := hide_ h0
  replace hD := hide_ hD
  obtain ⟨p, hp0⟩ : ∃ p : Nat → Bool, p = fun i : Nat => win l s (i : Int) := ⟨_, rfl⟩
  have hp := hide_ (show ∀ k : Nat, win l s k = p k from fun k => by rw [hp0])
  have hr := hide_ (show wns l s = pk 0 p 7 from by rw [hp0]; rfl)
  clear hp0
  go_enter Try.func16, Try.ntmps16
  go_wp2_with ((first
    | ((with_reducible refine at_lit ?_); refine w_new Try.elI (o := ⟨some 7, _, _, _, _, _⟩) (i64s []) rfl rfl rfl (i64s_cells _) rfl (by omega) ?_; intro v3 w3 hX ho3; have o3 : OwnI _ w3 v3 [] := ho3; replace o3 := hide_ o3; clear ho3)
    | fail) <;> (try simp only [Act.put, List.setIfInBounds_toArray, List.set_cons_zero, List.set_cons_succ]))
  go_loopw [5, 6] (fun out i wr => ∃ k : Nat, i = .int .i64 k ∧ k ≤ 7 ∧ Hid (OwnI w.heap.size wr out (pk 0 p k)) ∧ Ext w wr) (fun _ i _ => 7 - (RowKit.intOf i).toNat)
  case atStart => exact ⟨0, rfl, by omega, o3, hX⟩
  case round =>
    clear hX o3
    obtain ⟨k, rfl, hk, ho, hX⟩ := hrel
    by_cases hlt : k < 7
    · have t2 : decide ((k : Int) < 7) = true := by simp; omega
      have Hlen := hide_ (pk_len (c := 0) (p := p) k)
      cases hb : p k
      · have Hp := hide_ (pk_no (c := 0) hb)
        have hb' := hide_ hb
        clear hb
        go_wp2_with (first
          | (go_at_call 13; refine (refWins_any hD.out (h0.out.ext hX)).mono ?_; rintro e w4 ⟨rfl, hx⟩; rw [hp.out, hb'.out]; replace hX := hX.trans hx; replace ho := hide_ (OwnI.ext ho.out hx); clear hx)
          | fail)
        go_roundw
        case rel => exact ⟨k + 1, by go_num, by omega, by rw [Hp.out]; exact ho, hX⟩
        case measure => simp [RowKit.intOf]; omega
      · have Hp := hide_ (pk_yes (c := 0) hb)
        have hb' := hide_ hb
        clear hb
        go_wp2_with ((first
          | (go_at_call 13; refine (refWins_any hD.out (h0.out.ext hX)).mono ?_; rintro e w4 ⟨rfl, hx⟩; rw [hp.out, hb'.out]; replace hX := hX.trans hx; replace ho := hide_ (OwnI.ext ho.out hx); clear hx)
          | ((with_reducible refine at_lit ?_); refine w_new Try.elI (o := ⟨some 18, _, _, _, _, _⟩) (i64s [(k : Int)]) rfl rfl rfl (i64s_cells _) rfl (by omega) ?_; intro v3 w3 hx3 ho3; have o3 : OwnI _ w3 v3 [(k : Int)] := ho3; have i3 := o3.ints; replace ho := hide_ (OwnI.ext ho.out hx3); replace hX := hX.trans hx3; clear ho3 o3 hx3)
          | ((with_reducible refine at_bi ?_); refine appi _ _ rfl rfl rfl rfl ho.out i3 (by have := Hlen.out; simp; omega) hX.size ?_; intro v4 w4 ho4 hb4 hg4 hl4; replace hX := hX.trans' hb4; clear hb4 hg4 hl4 ho i3)
          | fail) <;> (try simp only [Act.put, List.setIfInBounds_toArray, List.set_cons_zero, List.set_cons_succ]))
        go_roundw
        case rel => exact ⟨k + 1, by go_num, by omega, by rw [Hp.out]; exact hide_ ho4, hX⟩
        case measure => simp [RowKit.intOf]; omega
    · obtain rfl : k = 7 := by omega
      go_wp2
      go_ret
      exact Keep.intro ⟨_, rfl, by rw [hr.out]; exact ho.out.ints, hX⟩

set_option maxRecDepth 100000 in
set_option maxHeartbeats 1600000 in
theorem refSlots_any {w : World} {v : Value} {l : List Int} {n : Int} (hD : DrOk l) (h0 : Ints w v l) :
    Calls Try.prog 18 #[v, .int .i64 n] w fun e w' => ∃ v', e = .returned v' ∧ Ints w' v' (sls l n) ∧ Ext w w' := by
  refine calls_keep ?_
  replace h0 := hide_ h0
  have hlen := hD.1
  replace hD := hide_ hD
  obtain ⟨p, hp0⟩ : ∃ p : Nat → Bool, p = fun i : Nat => win l ((i + 1 : Nat) : Int) n := ⟨_, rfl⟩
  have hp := hide_ (show ∀ k : Nat, win l ((k : Int) + 1) n = p k from fun k => by rw [hp0]; rfl)
  have hr := hide_ (show sls l n = pk 1 p l.length from by rw [hp0]; rfl)
  clear hp0
  go_enter Try.func18, Try.ntmps18
  go_wp2_with ((first
    | ((with_reducible refine at_lit ?_); refine w_new Try.elI (o := ⟨some 7, _, _, _, _, _⟩) (i64s []) rfl rfl rfl (i64s_cells _) rfl (by omega) ?_; intro v3 w3 hX ho3; have o3 : OwnI _ w3 v3 [] := ho3; replace o3 := hide_ o3; clear ho3)
    | fail) <;> (try simp only [Act.put, List.setIfInBounds_toArray, List.set_cons_zero, List.set_cons_succ]))
  go_loopw [5, 6] (fun out i wr => ∃ k : Nat, i = .int .i64 ((k : Int) + 1) ∧ k ≤ l.length ∧ Hid (OwnI w.heap.size wr out (pk 1 p k)) ∧ Ext w wr) (fun _ i _ => l.length + 1 - (RowKit.intOf i).toNat)
  case atStart => exact ⟨0, rfl, by omega, o3, hX⟩
  case round =>
    clear hX o3
    obtain ⟨k, rfl, hk, ho, hX⟩ := hrel
    by_cases hlt : k < l.length
    · have t2 : decide ((k : Int) + 1 ≤ (l.length : Int)) = true := by simp; omega
      have Hlen := hide_ (pk_len (c := 1) (p := p) k)
      cases hb : p k
      · have Hp := hide_ (pk_no (c := 1) hb)
        have hb' := hide_ hb
        clear hb
        go_wp2_with ((first
          | (go_at_call 13; refine (refWins_any hD.out (h0.out.ext hX)).mono ?_; rintro e w4 ⟨rfl, hx⟩; rw [hp.out, hb'.out]; replace hX := hX.trans hx; replace ho := hide_ (OwnI.ext ho.out hx); clear hx)
          | ((with_reducible refine at_bi ?_); (try refine w_yes _ _ _ rfl rfl rfl ?_); refine i_len _ rfl rfl (v := v) rfl (h0.out.ext hX) ?_)
          | fail) <;> (try simp only [Act.put, List.setIfInBounds_toArray, List.set_cons_zero, List.set_cons_succ]))
        go_roundw
        case rel => exact ⟨k + 1, by go_num, by omega, by rw [Hp.out]; exact ho, hX⟩
        case measure => simp [RowKit.intOf]; omega
      · have Hp := hide_ (pk_yes (c := 1) hb)
        have hb' := hide_ hb
        clear hb
        go_wp2_with ((first
          | (go_at_call 13; refine (refWins_any hD.out (h0.out.ext hX)).mono ?_; rintro e w4 ⟨rfl, hx⟩; rw [hp.out, hb'.out]; replace hX := hX.trans hx; replace ho := hide_ (OwnI.ext ho.out hx); clear hx)
          | ((with_reducible refine at_bi ?_); (try refine w_yes _ _ _ rfl rfl rfl ?_); refine i_len _ rfl rfl (v := v) rfl (h0.out.ext hX) ?_)
          | ((with_reducible refine at_lit ?_); refine w_new Try.elI (o := ⟨some 20, _, _, _, _, _⟩) (i64s [((k + 1 : Nat) : Int)]) rfl rfl rfl (i64s_cells _) rfl (by omega) ?_; intro v3 w3 hx3 ho3; have o3 : OwnI _ w3 v3 [((k + 1 : Nat) : Int)] := ho3; have i3 := o3.ints; replace ho := hide_ (OwnI.ext ho.out hx3); replace hX := hX.trans hx3; clear ho3 o3 hx3)
          | ((with_reducible refine at_bi ?_); refine appi _ _ rfl rfl rfl rfl ho.out i3 (by have := Hlen.out; simp; omega) hX.size ?_; intro v4 w4 ho4 hb4 hg4 hl4; replace hX := hX.trans' hb4; clear hb4 hg4 hl4 ho i3)
          | fail) <;> (try simp only [Act.put, List.setIfInBounds_toArray, List.set_cons_zero, List.set_cons_succ]))
        go_roundw
        case rel => exact ⟨k + 1, by go_num, by omega, by rw [Hp.out]; exact hide_ ho4, hX⟩
        case measure => simp [RowKit.intOf]; omega
    · obtain rfl : k = l.length := by omega
      have t2 : decide ((l.length : Int) + 1 ≤ (l.length : Int)) = false := decide_eq_false (by omega)
      go_wp2_with ((first
        | ((with_reducible refine at_bi ?_); (try refine w_yes _ _ _ rfl rfl rfl ?_); refine i_len _ rfl rfl (v := v) rfl (h0.out.ext hX) ?_)
        | fail) <;> (try simp only [Act.put, List.setIfInBounds_toArray, List.set_cons_zero, List.set_cons_succ]))
      go_ret
      exact Keep.intro ⟨_, rfl, by rw [hr.out]; exact ho.out.ints, hX⟩

set_option maxRecDepth 100000 in
set_option maxHeartbeats 3200000 in
theorem refSingle_any {w : World} {v u : Value} {l who : List Int} (hD : DrOk l) (h0 : Ints w v l) (hu : Ints w u who) :
    Calls Try.prog 19 #[v, u] w fun e w' => e = .returned (.bool (sgl l who)) ∧ Ext w w' := by
  refine calls_keep ?_
  have hX := Ext.refl w
  have hmax : who.length ≤ 9223372036854775807 := Nat.le_trans hu.len_le (by unfold maxLen; omega)
  replace h0 := hide_ h0
  replace hu := hide_ hu
  have hlen := hD.1
  replace hD := hide_ hD
  go_enter Try.func19, Try.ntmps19
  go_wp2
  go_loopw [5] (fun i wr => ∃ k : Nat, i = .int .i64 ((k : Int) + 1) ∧ k ≤ l.length ∧ Hid (∀ i, i < k → good l who i) ∧ Ext w wr) (fun i _ => l.length + 1 - (RowKit.intOf i).toNat)
  case atStart => exact ⟨0, rfl, by omega, hide_ (fun i hi => by omega), hX⟩
  case round =>
    clear hX
    obtain ⟨k, rfl, hk, hG, hX⟩ := hrel
    by_cases hlt : k < l.length
    · have t2 : decide ((k : Int) + 1 ≤ (l.length : Int)) = true := by simp; omega
      obtain ⟨W, hW0⟩ : ∃ W, wns l ((k : Int) + 1) = W := ⟨_, rfl⟩
      have hW := hide_ hW0
      have hgd := hide_ (show good l who k ↔ W.length ≤ 1 ∧ ∀ x ∈ W, x ∈ who from by rw [← hW0]; rfl)
      have hWl : W.length ≤ 7 := by rw [← hW0]; exact pk_len 7
      clear hW0
      by_cases c1 : 1 < W.length
      · have t3 : decide ((1 : Int) < (W.length : Int)) = true := by simp; omega
        have hs := hide_ (show sgl l who = false from decide_eq_false fun h => by have := (hgd.out.1 (h k hlt)).1; omega)
        clear c1
        go_wp2_with ((first
          | (go_at_call 16; refine (refWinners_any hD.out (h0.out.ext hX)).mono ?_; rintro e w4 ⟨vw, rfl, iw, hx⟩; rw [hW.out] at iw; replace iw := hide_ iw; replace hX := hX.trans hx; clear hx)
          | ((with_reducible refine at_bi ?_); (try refine w_yes _ _ _ rfl rfl rfl ?_); refine i_len _ rfl rfl (v := v) rfl (h0.out.ext hX) ?_)
          | ((with_reducible refine at_bi ?_); (try refine w_yes _ _ _ rfl rfl rfl ?_); refine i_len _ rfl rfl (v := vw) rfl iw.out ?_)
          | fail) <;> (try simp only [Act.put, List.setIfInBounds_toArray, List.set_cons_zero, List.set_cons_succ]))
        go_ret
        exact Keep.intro ⟨by rw [hs.out]; rfl, hX⟩
      have t3 : decide ((1 : Int) < (W.length : Int)) = false := by simp; omega
      have hW1 := hide_ (show W.length ≤ 1 from by omega)
      have hlt' := hide_ hlt
      clear c1
      go_wp2_with ((first
        | (go_at_call 16; refine (refWinners_any hD.out (h0.out.ext hX)).mono ?_; rintro e w4 ⟨vw, rfl, iw, hx⟩; rw [hW.out] at iw; replace iw := hide_ iw; replace hX := hX.trans hx; clear hx)
        | ((with_reducible refine at_bi ?_); (try refine w_yes _ _ _ rfl rfl rfl ?_); refine i_len _ rfl rfl (v := v) rfl (h0.out.ext hX) ?_)
        | ((with_reducible refine at_bi ?_); (try refine w_yes _ _ _ rfl rfl rfl ?_); refine i_len _ rfl rfl (v := vw) rfl iw.out ?_)
        | fail) <;> (try simp only [Act.put, List.setIfInBounds_toArray, List.set_cons_zero, List.set_cons_succ]))
      go_loopw [26] (fun i wr2 => ∃ m : Nat, i = .int .i64 m ∧ m ≤ W.length ∧ Hid (∀ x ∈ W.take m, x ∈ who) ∧ Ext w wr2 ∧ Hid (Ints wr2 vw W)) (fun i _ => W.length - (RowKit.intOf i).toNat)
      case atStart => exact ⟨0, rfl, by omega, hide_ (by simp), hX, iw⟩
      case round =>
        clear hX iw
        obtain ⟨m, rfl, hm, hin, hX, iw⟩ := hrel
        by_cases hml : m < W.length
        · have t4 : decide ((m : Int) < (W.length : Int)) = true := by simp; omega
          obtain ⟨x, hx0⟩ : ∃ x, W[m] = x := ⟨_, rfl⟩
          have hx := hide_ hx0
          have hml' := hide_ hml
          have hxW := hide_ (show x ∈ W from by rw [← hx0]; exact List.getElem_mem hml)
          have e0 := hide_ (show W.take (m + 1) = W.take m ++ [x] from by rw [List.take_add_one, List.getElem?_eq_getElem hml, hx0]; rfl)
          clear hx0
          go_wp2_with ((first
            | ((with_reducible refine at_bi ?_); refine i_len _ rfl rfl (v := u) rfl (hu.out.ext hX) ?_)
            | ((with_reducible refine at_idx ?_); refine i_idx _ _ m rfl rfl (v := vw) rfl iw.out rfl hml'.out ?_; intro ad had; rw [hx.out] at had)
            | fail) <;> (try simp only [Act.put, List.setIfInBounds_toArray, List.set_cons_zero, List.set_cons_succ]))
          go_loopw [9, 32] (fun y j wr3 => ∃ n : Nat, j = .int .i64 n ∧ n ≤ who.length ∧ y = .bool (decide (x ∈ who.take n)) ∧ Ext w wr3 ∧ Hid (Ints wr3 vw W)) (fun _ j _ => who.length - (RowKit.intOf j).toNat)
          case atStart => exact ⟨0, rfl, Nat.zero_le _, by simp, hX, iw⟩
          case round =>
            clear hX iw had
            obtain ⟨n, rfl, hn, rfl, hX, iw⟩ := hrel
            by_cases hnl : n < who.length
            · have t5 : decide ((n : Int) < (who.length : Int)) = true := by simp; omega
              obtain ⟨y, hy0⟩ : ∃ y, who[n] = y := ⟨_, rfl⟩
              have hy := hide_ hy0
              have hnl' := hide_ hnl
              have hstep : decide (x ∈ who.take (n + 1)) = (decide (x ∈ who.take n) || y == x) := by
                have e1 : who.take (n + 1) = who.take n ++ [y] := by rw [List.take_add_one, List.getElem?_eq_getElem hnl, hy0]; rfl
                rw [Bool.eq_iff_iff, e1]
                constructor
                · intro h
                  rcases List.mem_append.1 (of_decide_eq_true h) with h | h
                  · rw [decide_eq_true h]; rfl
                  · simp only [List.mem_singleton] at h
                    rw [h, beq_self_eq_true, Bool.or_true]
                · intro h
                  rw [Bool.or_eq_true] at h
                  rcases h with h | h
                  · exact decide_eq_true (List.mem_append.2 (.inl (of_decide_eq_true h)))
                  · exact decide_eq_true (List.mem_append.2 (.inr (by rw [eq_of_beq h]; simp)))
              cases hb : decide (x ∈ who.take n)
              · cases hc : (y == x)
                all_goals
                  have hq := hide_ (show decide (x ∈ who.take (n + 1)) = (y == x) from by rw [hstep, hb, Bool.false_or])
                  rw [hc] at hq
                  clear hstep hy0
                  go_wp2_with ((first
                    | ((with_reducible refine at_idx ?_); refine i_idx _ _ n rfl rfl (v := u) rfl (hu.out.ext hX) rfl hnl'.out ?_; intro ad had; rw [hy.out] at had)
                    | fail) <;> (try simp only [Act.put, List.setIfInBounds_toArray, List.set_cons_zero, List.set_cons_succ]))
                  go_roundw
                  case rel => exact ⟨n + 1, by go_num, by omega, by rw [hq.out], hX, iw⟩
                  case measure => simp [RowKit.intOf]; omega
              · have hq := hide_ (show decide (x ∈ who.take (n + 1)) = true from by rw [hstep, hb, Bool.true_or])
                clear hstep hy0
                go_wp2_with ((first
                  | ((with_reducible refine at_idx ?_); refine i_idx _ _ n rfl rfl (v := u) rfl (hu.out.ext hX) rfl hnl'.out ?_; intro ad had; rw [hy.out] at had)
                  | fail) <;> (try simp only [Act.put, List.setIfInBounds_toArray, List.set_cons_zero, List.set_cons_succ]))
                go_roundw
                case rel => exact ⟨n + 1, by go_num, by omega, by rw [hq.out], hX, iw⟩
                case measure => simp [RowKit.intOf]; omega
            · obtain rfl : n = who.length := by omega
              have t5 : decide ((who.length : Int) < (who.length : Int)) = false := by simp
              rw [List.take_length]
              cases hb : decide (x ∈ who)
              · have hs := hide_ (show sgl l who = false from decide_eq_false fun h => by
                  have h2 := (hgd.out.1 (h k hlt'.out)).2 x hxW.out
                  rw [decide_eq_true h2] at hb; cases hb)
                go_wp2
                go_ret
                exact Keep.intro ⟨by rw [hs.out]; rfl, hX⟩
              · have hs := hide_ (show ∀ y ∈ W.take (m + 1), y ∈ who from fun y hy => by
                  rw [e0.out] at hy
                  rcases List.mem_append.1 hy with hy | hy
                  · exact hin.out y hy
                  · simp only [List.mem_singleton] at hy; subst hy; exact of_decide_eq_true hb)
                go_wp2
                go_roundw
                case rel => exact ⟨m + 1, by go_num, hml'.out, hs, hX, iw⟩
                case measure => have := hml'.out; simp [RowKit.intOf]; omega
        · obtain rfl : m = W.length := by omega
          have t4 : decide ((W.length : Int) < (W.length : Int)) = false := by simp
          have hs := hide_ (show ∀ i, i < k + 1 → good l who i from fun i hi => by
            by_cases e : i < k
            · exact hG.out i e
            · obtain rfl : i = k := by omega
              exact hgd.out.2 ⟨hW1.out, by have := hin.out; rwa [List.take_length] at this⟩)
          go_wp2
          go_roundw
          case rel => exact ⟨k + 1, by go_num, hlt'.out, hs, hX⟩
          case measure => have := hlt'.out; simp [RowKit.intOf]; omega
    · obtain rfl : k = l.length := by omega
      have t2 : decide ((l.length : Int) + 1 ≤ (l.length : Int)) = false := decide_eq_false (by omega)
      have hs := hide_ (show sgl l who = true from decide_eq_true hG.out)
      go_wp2_with ((first
        | ((with_reducible refine at_bi ?_); (try refine w_yes _ _ _ rfl rfl rfl ?_); refine i_len _ rfl rfl (v := v) rfl (h0.out.ext hX) ?_)
        | fail) <;> (try simp only [Act.put, List.setIfInBounds_toArray, List.set_cons_zero, List.set_cons_succ]))
      go_ret
      exact Keep.intro ⟨by rw [hs.out]; rfl, hX⟩
end Go.Proofs.Ytnbnbnjojnlcpaa
