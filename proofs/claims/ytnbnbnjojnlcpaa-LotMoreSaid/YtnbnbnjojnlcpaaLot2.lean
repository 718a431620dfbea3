/- The contract of lot.Single. Condition: draws that can be. -/
import Derived.Test.YtnbnbnjojnlcpaaLot1
namespace Go.Proofs.Ytnbnbnjojnlcpaa
open Go.RowKit

set_option maxRecDepth 100000 in
set_option maxHeartbeats 3200000 in
theorem Single_any {w : World} {v u : Value} {l who : List Int} (hD : DrOk l) (h0 : Ints w v l) (hu : Ints w u who) :
    Calls Try.prog 10 #[v, u] w fun e w' => e = .returned (.bool (sgl l who)) ∧ Ext w w' := by
  refine calls_keep ?_
  have hX := Ext.refl w
  replace h0 := hide_ h0
  replace hu := hide_ hu
  have hlen := hD.1
  replace hD := hide_ hD
  go_enter Try.func10, Try.ntmps10
  go_wp2_with ((first
    | ((with_reducible refine at_bi ?_); (try refine w_yes _ _ _ rfl rfl rfl ?_); refine i_len _ rfl rfl (v := v) rfl (h0.out.ext hX) ?_)
    | fail) <;> (try simp only [Act.put, List.setIfInBounds_toArray, List.set_cons_zero, List.set_cons_succ]))
  go_loopw [9] (fun i wr => ∃ k : Nat, i = .int .i64 k ∧ k ≤ l.length ∧ Hid (∀ i, i < k → good l who i) ∧ Ext w wr) (fun i _ => l.length - (RowKit.intOf i).toNat)
  case atStart => exact ⟨0, rfl, by omega, hide_ (fun i hi => by omega), hX⟩
  case round =>
    clear hX
    obtain ⟨k, rfl, hk, hG, hX⟩ := hrel
    by_cases hlt : k < l.length
    · have t2 : decide ((k : Int) < (l.length : Int)) = true := by simp; omega
      obtain ⟨W, hW0⟩ : ∃ W, wns l ((k : Int) + 1) = W := ⟨_, rfl⟩
      have hW := hide_ hW0
      have hgd : good l who k ↔ W.length ≤ 1 ∧ ∀ x ∈ W, x ∈ who := by rw [← hW0]; rfl
      have hWl : W.length ≤ 7 := by rw [← hW0]; exact pk_len 7
      clear hW0
      by_cases c1 : 1 < W.length
      · have t3 : decide ((1 : Int) < (W.length : Int)) = true := by simp; omega
        have hs := hide_ (show sgl l who = false from decide_eq_false fun h => by have := (hgd.1 (h k hlt)).1; omega)
        clear c1 hgd
        go_wp2_with ((first
          | (go_at_call 15; refine (Winners_any hD.out (h0.out.ext hX)).mono ?_; rintro e w4 ⟨vw, rfl, iw, hx⟩; rw [hW.out] at iw; replace iw := hide_ iw; replace hX := hX.trans hx; clear hx)
          | ((with_reducible refine at_bi ?_); (try refine w_yes _ _ _ rfl rfl rfl ?_); refine i_len _ rfl rfl (v := vw) rfl iw.out ?_)
          | fail) <;> (try simp only [Act.put, List.setIfInBounds_toArray, List.set_cons_zero, List.set_cons_succ]))
        go_ret
        exact Keep.intro ⟨by rw [hs.out]; rfl, hX⟩
      have t3 : decide ((1 : Int) < (W.length : Int)) = false := by simp; omega
      by_cases c2 : W.length = 1
      · have t4 : ((W.length : Int) == 1) = true := by rw [c2]; rfl
        obtain ⟨x, hx⟩ : ∃ x, W = [x] := List.length_eq_one_iff.1 c2
        have h1 := hide_ (show 0 < W.length from by omega)
        have hx0 := hide_ (show W[0]'(by omega) = x from by subst hx; rfl)
        cases cq : decide (x ∈ who)
        · have hq := hide_ cq
          have hs := hide_ (show sgl l who = false from decide_eq_false fun h => by
            have h2 := (hgd.1 (h k hlt)).2 x (by rw [hx]; simp)
            rw [decide_eq_true h2] at cq; cases cq)
          clear c1 hgd cq hx
          go_wp2_with ((first
            | (go_at_call 15; refine (Winners_any hD.out (h0.out.ext hX)).mono ?_; rintro e w4 ⟨vw, rfl, iw, hx⟩; rw [hW.out] at iw; replace iw := hide_ iw; replace hX := hX.trans hx; clear hx)
            | (go_at_call 22; refine (Contains_any (n := x) (hu.out.ext hX)).mono ?_; rintro e w4 ⟨rfl, hx⟩; rw [hq.out]; replace hX := hX.trans hx; clear hx)
            | ((with_reducible refine at_bi ?_); (try refine w_yes _ _ _ rfl rfl rfl ?_); refine i_len _ rfl rfl (v := vw) rfl iw.out ?_)
            | ((with_reducible refine at_idx ?_); (try refine w_yes _ _ _ rfl rfl rfl ?_); refine i_idx _ _ 0 rfl rfl (v := vw) rfl iw.out rfl h1.out ?_; intro ad had; rw [hx0.out] at had)
            | fail) <;> (try simp only [Act.put, List.setIfInBounds_toArray, List.set_cons_zero, List.set_cons_succ]))
          go_ret
          exact Keep.intro ⟨by rw [hs.out]; rfl, hX⟩
        · have hq := hide_ cq
          have hs := hide_ (show ∀ i, i < k + 1 → good l who i from fun i hi => by
            by_cases e : i < k
            · exact hG.out i e
            · obtain rfl : i = k := by omega
              refine hgd.2 ⟨by omega, fun y hy => ?_⟩
              rw [hx] at hy
              simp only [List.mem_singleton] at hy
              subst hy
              exact of_decide_eq_true cq)
          clear c1 hgd cq hx hG
          go_wp2_with ((first
            | (go_at_call 15; refine (Winners_any hD.out (h0.out.ext hX)).mono ?_; rintro e w4 ⟨vw, rfl, iw, hx⟩; rw [hW.out] at iw; replace iw := hide_ iw; replace hX := hX.trans hx; clear hx)
            | (go_at_call 22; refine (Contains_any (n := x) (hu.out.ext hX)).mono ?_; rintro e w4 ⟨rfl, hx⟩; rw [hq.out]; replace hX := hX.trans hx; clear hx)
            | ((with_reducible refine at_bi ?_); (try refine w_yes _ _ _ rfl rfl rfl ?_); refine i_len _ rfl rfl (v := vw) rfl iw.out ?_)
            | ((with_reducible refine at_idx ?_); (try refine w_yes _ _ _ rfl rfl rfl ?_); refine i_idx _ _ 0 rfl rfl (v := vw) rfl iw.out rfl h1.out ?_; intro ad had; rw [hx0.out] at had)
            | fail) <;> (try simp only [Act.put, List.setIfInBounds_toArray, List.set_cons_zero, List.set_cons_succ]))
          go_roundw
          case rel => exact ⟨k + 1, by go_num, by omega, hs, hX⟩
          case measure => simp [RowKit.intOf]; omega
      · have t4 : ((W.length : Int) == 1) = false := by simp; omega
        have hs := hide_ (show ∀ i, i < k + 1 → good l who i from fun i hi => by
          by_cases e : i < k
          · exact hG.out i e
          · obtain rfl : i = k := by omega
            have : W = [] := List.eq_nil_of_length_eq_zero (by omega)
            refine hgd.2 ⟨by omega, fun y hy => ?_⟩
            rw [this] at hy; simp at hy)
        clear c1 c2 hgd hG
        go_wp2_with ((first
          | (go_at_call 15; refine (Winners_any hD.out (h0.out.ext hX)).mono ?_; rintro e w4 ⟨vw, rfl, iw, hx⟩; rw [hW.out] at iw; replace iw := hide_ iw; replace hX := hX.trans hx; clear hx)
          | ((with_reducible refine at_bi ?_); (try refine w_yes _ _ _ rfl rfl rfl ?_); refine i_len _ rfl rfl (v := vw) rfl iw.out ?_)
          | fail) <;> (try simp only [Act.put, List.setIfInBounds_toArray, List.set_cons_zero, List.set_cons_succ]))
        go_roundw
        case rel => exact ⟨k + 1, by go_num, by omega, hs, hX⟩
        case measure => simp [RowKit.intOf]; omega
    · obtain rfl : k = l.length := by omega
      have t2 : decide ((l.length : Int) < (l.length : Int)) = false := by simp
      have hs := hide_ (show sgl l who = true from decide_eq_true hG.out)
      go_wp2
      go_ret
      exact Keep.intro ⟨by rw [hs.out]; rfl, hX⟩
end Go.Proofs.Ytnbnbnjojnlcpaa
