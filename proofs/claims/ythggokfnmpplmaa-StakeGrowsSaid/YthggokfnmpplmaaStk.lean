/- The contracts of stake.Check, Total, Sum, Most, Some, Few. Condition: but for Check, stakes that can be. -/
import Derived.Test.YthggokfnmpplmaaWsum
import Derived.Maps.OwnSet
import Derived.WalkKit
namespace Go.Proofs.Ythggokfnmpplmaa
open Go.RowKit Go.Maps

theorem Try.keyI : Keyed Try.prog 3 := int_keyed Try.underlying3
theorem Try.zeroU (w : World) : (zeroValue 33).run Try.prog w = .ok (.agg #[]) w := by kernel_rfl

set_option maxRecDepth 100000 in
set_option maxHeartbeats 800000 in
theorem Check_any (v : Value) (l : List Int) (W : World) (h : Ints W v l) :
    Calls Try.prog 11 #[v] W fun e w' => e = .returned (.int .i64 (chk l)) ∧ w' = W := by
  refine calls_keep ?_
  by_cases h1 : l.length < 1
  · have t0 : (decide ((l.length : Int) < 1)) = true := by simp; omega
    have hc := hide_ (show chk l = 31 from if_neg fun e => by have := e.1; omega)
    clear h1
    go_enter Try.func11, Try.ntmps11
    go_wp2_with (first
      | (refine i_len (.tmp 5) rfl rfl (v := v) rfl h ?_))
    go_ret
    exact Keep.intro ⟨by rw [hc.out]; rfl, rfl⟩
  have t0 : (decide ((l.length : Int) < 1)) = false := by simp; omega
  by_cases h2 : 7 < l.length
  · have t1 : (decide ((7 : Int) < (l.length : Int))) = true := by simp; omega
    have hc := hide_ (show chk l = 31 from if_neg fun e => by have := e.2.1; omega)
    clear h1 h2
    go_enter Try.func11, Try.ntmps11
    go_wp2_with (first
      | (refine i_len (.tmp 5) rfl rfl (v := v) rfl h ?_)
      | (refine w_yes _ _ _ rfl rfl rfl ?_; refine i_len (.tmp 9) rfl rfl (v := v) rfl h ?_))
    go_ret
    exact Keep.intro ⟨by rw [hc.out]; rfl, rfl⟩
  have t1 : (decide ((7 : Int) < (l.length : Int))) = false := by simp; omega
  have hb := hide_ (show 1 ≤ l.length ∧ l.length ≤ 7 from by omega)
  go_enter Try.func11, Try.ntmps11
  go_wp2_with (first
    | (refine i_len (.tmp 5) rfl rfl (v := v) rfl h ?_)
    | (refine w_yes _ _ _ rfl rfl rfl ?_; refine i_len (.tmp 9) rfl rfl (v := v) rfl h ?_)
    | (refine i_len (.tmp 13) rfl rfl (v := v) rfl h ?_))
  go_loopw [15] (fun i wr => ∃ (k : Nat), i = .int .i64 k ∧ k ≤ l.length ∧ wr = W ∧ Hid (∀ x ∈ l.take k, 1 ≤ x ∧ x ≤ 1000000))
    (fun i _ => l.length - (intOf i).toNat)
  case atStart => exact ⟨0, rfl, Nat.zero_le _, rfl, fun x hx => by simp at hx⟩
  case round =>
    obtain ⟨k, rfl, hk, rfl, hall⟩ := hrel
    by_cases hlt : k < l.length
    · by_cases hlo : l[k] < 1
      · have t2 : (decide (l[k] < 1)) = true := by simpa using hlo
        have hc := hide_ (show chk l = 31 from if_neg fun e => by have := e.2.2 l[k] (List.getElem_mem hlt); omega)
        clear hlo
        go_wp2_with (first
          | (refine i_idx (.tmp 13) (.tmp 15) k rfl rfl (v := v) rfl h rfl hlt ?_; intro ad had))
        go_ret
        exact Keep.intro ⟨by rw [hc.out]; rfl, rfl⟩
      · have t2 : (decide (l[k] < 1)) = false := by simpa using hlo
        by_cases hhi : 1000000 < l[k]
        · have t3 : (decide (1000000 < l[k])) = true := by simpa using hhi
          have hc := hide_ (show chk l = 31 from if_neg fun e => by have := e.2.2 l[k] (List.getElem_mem hlt); omega)
          clear hlo hhi
          go_wp2_with (first
            | (refine i_idx (.tmp 13) (.tmp 15) k rfl rfl (v := v) rfl h rfl hlt ?_; intro ad had))
          go_ret
          exact Keep.intro ⟨by rw [hc.out]; rfl, rfl⟩
        · have t3 : (decide (1000000 < l[k])) = false := by simpa using hhi
          have hx := hide_ (show 1 ≤ l[k] ∧ l[k] ≤ 1000000 from by omega)
          clear hlo hhi
          go_wp2_with (first
            | (refine i_idx (.tmp 13) (.tmp 15) k rfl rfl (v := v) rfl h rfl hlt ?_; intro ad had))
          go_roundw
          case rel =>
            refine ⟨k + 1, by go_num, by omega, by trivial, fun x hm => ?_⟩
            rw [List.take_succ_eq_append_getElem hlt] at hm
            rcases List.mem_append.1 hm with hm | hm
            · exact hall.out x hm
            · simp at hm; subst hm; exact hx.out
          case measure => simp [intOf]; omega
    · have hc := hide_ (show chk l = 0 from if_pos ⟨hb.out.1, hb.out.2, by have := hall.out; rwa [List.take_of_length_le (by omega)] at this⟩)
      go_wp2
      go_ret
      exact Keep.intro ⟨by rw [hc.out]; rfl, rfl⟩

theorem ws_step (t : List Int) (p : Nat → Bool) {k : Nat} (hk : k < t.length) : ws t p (k + 1) = ws t p k + if p k then t[k] else 0 := by rw [ws, getD_at t hk]

set_option maxRecDepth 100000 in
set_option maxHeartbeats 800000 in
theorem Total_any (v : Value) (t : List Int) (W : World) (ht : StOk t) (h : Ints W v t) :
    Calls Try.prog 10 #[v] W fun e w' => e = .returned (.int .i64 (totS t)) ∧ w' = W := by
  refine calls_keep ?_
  have Ht := hide_ ht
  have hlen := ht.2.1
  clear ht
  go_enter Try.func10, Try.ntmps10
  go_wp2_with (first
    | (refine i_len (.tmp 6) rfl rfl (v := v) rfl h ?_))
  go_loopw [3, 8] (fun s i wr => ∃ (k : Nat), i = .int .i64 k ∧ k ≤ t.length ∧ wr = W ∧ s = .int .i64 (ws t (fun _ => true) k))
    (fun _ i _ => t.length - (intOf i).toNat)
  case atStart => exact ⟨0, rfl, Nat.zero_le _, rfl, rfl⟩
  case round =>
    obtain ⟨k, rfl, hk, rfl, rfl⟩ := hrel
    by_cases hlt : k < t.length
    · obtain ⟨s, hs⟩ : ∃ s, s = ws t (fun _ => true) k := ⟨_, rfl⟩
      have hsb := ws_bd Ht.out (fun _ => true) hk
      rw [← hs] at hsb ⊢
      have Hs := hide_ hs
      clear hs
      have hx := Ht.out.at hlt
      go_wp2_with (first
        | (refine i_idx (.tmp 6) (.tmp 8) k rfl rfl (v := v) rfl h rfl hlt ?_; intro ad had))
      go_roundw
      case rel =>
        refine ⟨k + 1, by go_num, by omega, by trivial, ?_⟩
        rw [ws_step t _ hlt, ← Hs.out, if_pos rfl]
      case measure => simp [intOf]; omega
    · obtain rfl : k = t.length := by omega
      go_wp2
      go_ret
      exact Keep.intro ⟨rfl, rfl⟩
end Go.Proofs.Ythggokfnmpplmaa
