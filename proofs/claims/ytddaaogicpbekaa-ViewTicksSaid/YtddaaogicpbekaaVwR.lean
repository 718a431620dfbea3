/- The contracts of the document's Leader, Patience and Tick, of any numbers. No condition but the numbers' range. -/
import Derived.Test.YtddaaogicpbekaaVwN
import Derived.Test.YtddaaogicpbekaaFB
import Derived.Test.YtddaaogicpbekaaFC
namespace Go.Proofs.Ytddaaogicpbekaa
open Go.RowKit

set_option maxRecDepth 100000 in
set_option maxHeartbeats 3200000 in
theorem RLeader_any {w : World} {i v n : Int} : Calls Try.prog 11 #[.int .i64 i, .int .i64 v, .int .i64 n] w fun e w' => e = .returned (.int .i64 (ldr i v n)) ∧ Ext w w' := by
  refine calls_keep ?_
  have hX := Ext.refl w
  by_cases h1 : i < 0
  · have d1 : decide (i < 0) = true := decide_eq_true h1
    have hq := hide_ (ldr_bad (i := i) (v := v) (n := n) (by omega))
    clear h1
    go_enter Try.func11, Try.ntmps11
    go_wp2_with (first
      | go_big_skip
      | fail)
    go_ret
    exact Keep.intro ⟨by rw [hq.out]; rfl, hX⟩
  have d1 : decide (i < 0) = false := decide_eq_false h1
  by_cases h2 : 1000 < i
  · have d2 : decide (1000 < i) = true := decide_eq_true h2
    have hq := hide_ (ldr_bad (i := i) (v := v) (n := n) (by omega))
    clear h1 h2
    go_enter Try.func11, Try.ntmps11
    go_wp2_with (first
      | go_big_skip
      | fail)
    go_ret
    exact Keep.intro ⟨by rw [hq.out]; rfl, hX⟩
  have d2 : decide (1000 < i) = false := decide_eq_false h2
  by_cases h3 : v < 0
  · have d3 : decide (v < 0) = true := decide_eq_true h3
    have hq := hide_ (ldr_bad (i := i) (v := v) (n := n) (by omega))
    clear h1 h2 h3
    go_enter Try.func11, Try.ntmps11
    go_wp2_with (first
      | go_big_skip
      | fail)
    go_ret
    exact Keep.intro ⟨by rw [hq.out]; rfl, hX⟩
  have d3 : decide (v < 0) = false := decide_eq_false h3
  by_cases h4 : 1000 < v
  · have d4 : decide (1000 < v) = true := decide_eq_true h4
    have hq := hide_ (ldr_bad (i := i) (v := v) (n := n) (by omega))
    clear h1 h2 h3 h4
    go_enter Try.func11, Try.ntmps11
    go_wp2_with (first
      | go_big_skip
      | fail)
    go_ret
    exact Keep.intro ⟨by rw [hq.out]; rfl, hX⟩
  have d4 : decide (1000 < v) = false := decide_eq_false h4
  by_cases h5 : n < 1
  · have d5 : decide (n < 1) = true := decide_eq_true h5
    have hq := hide_ (ldr_bad (i := i) (v := v) (n := n) (by omega))
    clear h1 h2 h3 h4 h5
    go_enter Try.func11, Try.ntmps11
    go_wp2_with (first
      | go_big_skip
      | fail)
    go_ret
    exact Keep.intro ⟨by rw [hq.out]; rfl, hX⟩
  have d5 : decide (n < 1) = false := decide_eq_false h5
  by_cases h6 : 7 < n
  · have d6 : decide (7 < n) = true := decide_eq_true h6
    have hq := hide_ (ldr_bad (i := i) (v := v) (n := n) (by omega))
    clear h1 h2 h3 h4 h5 h6
    go_enter Try.func11, Try.ntmps11
    go_wp2_with (first
      | go_big_skip
      | fail)
    go_ret
    exact Keep.intro ⟨by rw [hq.out]; rfl, hX⟩
  have d6 : decide (7 < n) = false := decide_eq_false h6
  have hq := hide_ (ldr_good (show 0 ≤ i ∧ i ≤ 1000 ∧ 0 ≤ v ∧ v ≤ 1000 ∧ 1 ≤ n ∧ n ≤ 7 by omega))
  have b1 : 0 ≤ i := by omega
  have b2 : i ≤ 1000 := by omega
  have b3 : 0 ≤ v := by omega
  have b4 : v ≤ 1000 := by omega
  have b5 : 1 ≤ n := by omega
  have b6 : n ≤ 7 := by omega
  clear h1 h2 h3 h4 h5 h6
  go_enter Try.func11, Try.ntmps11
  go_wp2
  clear d1 d2 d3 d4 d5 d6
  have hb := hide_ (show 0 ≤ i + v ∧ i + v ≤ 2000 by omega)
  clear b1 b2 b3 b4
  go_loopw [7] (fun r wr => ∃ (x : Int) (k : Nat), r = .int .i64 x ∧ Hid (x = i + v - n * k) ∧ 0 ≤ x ∧ x ≤ 2000 ∧ Ext w wr) (fun r _ => (RowKit.intOf r).toNat)
  case atStart => exact ⟨i + v, 0, rfl, hide_ (by simp), hb.out.1, hb.out.2, hX⟩
  case round =>
    clear hX
    obtain ⟨x, k, rfl, hx, hx0, hx1, hX⟩ := hrel
    by_cases hc : n ≤ x
    · have d1 : decide (n ≤ x) = true := decide_eq_true hc
      go_wp2
      go_roundw
      case rel => exact ⟨x - n, k + 1, rfl, hide_ (by rw [hx.out, Int.natCast_add, Int.mul_add]; omega), by omega, by omega, hX⟩
      case measure => simp [RowKit.intOf]; omega
    · have d1 : decide (n ≤ x) = false := decide_eq_false hc
      have hr := hide_ (mod_of_sub hx.out hx0 (by omega))
      clear hc
      go_wp2
      go_ret
      exact Keep.intro ⟨by rw [hq.out, hr.out]; rfl, hX⟩

set_option maxRecDepth 100000 in
set_option maxHeartbeats 3200000 in
theorem RPatience_any {w : World} {v b m : Int} (hvI : v ≤ 9223372036854775807) : Calls Try.prog 12 #[.int .i64 v, .int .i64 b, .int .i64 m] w fun e w' => e = .returned (.int .i64 (pat v b m)) ∧ Ext w w' := by
  refine calls_keep ?_
  have hX := Ext.refl w
  by_cases h1 : m < 1
  · have d1 : decide (m < 1) = true := decide_eq_true h1
    have hq := hide_ (pat_bad (v := v) (b := b) (m := m) (by omega))
    clear h1
    go_enter Try.func12, Try.ntmps12
    go_wp2_with (first
      | go_big_skip
      | fail)
    go_ret
    exact Keep.intro ⟨by rw [hq.out]; rfl, hX⟩
  have d1 : decide (m < 1) = false := decide_eq_false h1
  by_cases h2 : 1000 < m
  · have d2 : decide (1000 < m) = true := decide_eq_true h2
    have hq := hide_ (pat_bad (v := v) (b := b) (m := m) (by omega))
    clear h1 h2
    go_enter Try.func12, Try.ntmps12
    go_wp2_with (first
      | go_big_skip
      | fail)
    go_ret
    exact Keep.intro ⟨by rw [hq.out]; rfl, hX⟩
  have d2 : decide (1000 < m) = false := decide_eq_false h2
  by_cases h3 : v < 0
  · have d3 : decide (v < 0) = true := decide_eq_true h3
    have hq := hide_ (pat_cap (v := v) (b := b) (m := m) (by omega) (by omega))
    clear h1 h2 h3
    go_enter Try.func12, Try.ntmps12
    go_wp2_with (first
      | go_big_skip
      | fail)
    go_ret
    exact Keep.intro ⟨by rw [hq.out]; rfl, hX⟩
  have d3 : decide (v < 0) = false := decide_eq_false h3
  by_cases h4 : b < 1
  · have d4 : decide (b < 1) = true := decide_eq_true h4
    have hq := hide_ (pat_cap (v := v) (b := b) (m := m) (by omega) (by omega))
    clear h1 h2 h3 h4
    go_enter Try.func12, Try.ntmps12
    go_wp2_with (first
      | go_big_skip
      | fail)
    go_ret
    exact Keep.intro ⟨by rw [hq.out]; rfl, hX⟩
  have d4 : decide (b < 1) = false := decide_eq_false h4
  by_cases h5 : 100 < b
  · have d5 : decide (100 < b) = true := decide_eq_true h5
    have hq := hide_ (pat_cap (v := v) (b := b) (m := m) (by omega) (by omega))
    clear h1 h2 h3 h4 h5
    go_enter Try.func12, Try.ntmps12
    go_wp2_with (first
      | go_big_skip
      | fail)
    go_ret
    exact Keep.intro ⟨by rw [hq.out]; rfl, hX⟩
  have d5 : decide (100 < b) = false := decide_eq_false h5
  have h0m : 1 ≤ m ∧ m ≤ 1000 := by omega
  have h0b : 0 ≤ v ∧ 1 ≤ b ∧ b ≤ 100 := by omega
  have hend := hide_ (fun (y : Int) (k : Nat) => pat_end (v := v) (b := b) (m := m) (y := y) (k := k) h0m h0b)
  obtain ⟨h1a, h1b⟩ := h0m
  have hb0 := hide_ (show 0 < b ∧ b ≤ 2000 by omega)
  have hv0 := hide_ (show 0 ≤ v by omega)
  have hvI' := hide_ hvI
  clear h0b h1 h2 h3 h4 h5 hvI
  go_enter Try.func12, Try.ntmps12
  go_wp2
  clear d1 d2 d3 d4 d5
  go_loopw [8, 7] (fun r y wr => ∃ (z x : Int) (k : Nat), r = .int .i64 z ∧ y = .int .i64 x ∧ Hid (z = k) ∧ Hid (x = grw b k) ∧ 0 ≤ z ∧ Hid (z ≤ v) ∧ 0 < x ∧ x ≤ 2000 ∧ Ext w wr) (fun r _ _ => (v - RowKit.intOf r).toNat)
  case atStart => exact ⟨0, b, 0, rfl, rfl, hide_ (by simp), hide_ (by rw [grw_zero]), by omega, hide_ hv0.out, hb0.out.1, hb0.out.2, hX⟩
  case round =>
    clear hX
    obtain ⟨z, x, k, rfl, rfl, hz, hx, hz0, hzv, hx0, hx1, hX⟩ := hrel
    by_cases hc : z < v
    · have d1 : decide (z < v) = true := decide_eq_true hc
      have hzb : z < 9223372036854775807 := by have := hvI'.out; omega
      by_cases hc2 : x < m
      · have d2 : decide (x < m) = true := decide_eq_true hc2
        have hc' := hide_ hc
        go_wp2
        go_roundw
        case rel => exact ⟨z + 1, 2 * x, k + 1, rfl, rfl, hide_ (by have := hz.out; omega), hide_ (by rw [grw_succ, ← hx.out, Int.mul_comm]), by omega, hide_ (by have := hc'.out; omega), by omega, by omega, hX⟩
        case measure => have := hc'.out; simp [RowKit.intOf]; omega
      · have d2 : decide (x < m) = false := decide_eq_false hc2
        obtain ⟨r, hr0⟩ : ∃ r, min x m = r := ⟨_, rfl⟩
        have hr := hide_ hr0
        have hq := hide_ (show pat v b m = r from by rw [← hr0]; exact hend.out x k (by have := hz.out; omega) hx.out (.inr (by omega)))
        clear hc hc2 hr0
        go_wp2_with ((first
          | ((with_reducible refine at_bi ?_); refine w_min _ _ r hr.out.symm rfl rfl rfl rfl ?_)
          | fail) <;> (try simp only [Act.put, List.setIfInBounds_toArray, List.set_cons_zero, List.set_cons_succ]))
        go_ret
        exact Keep.intro ⟨by rw [hq.out]; rfl, hX⟩
    · have d1 : decide (z < v) = false := decide_eq_false hc
      obtain ⟨r, hr0⟩ : ∃ r, min x m = r := ⟨_, rfl⟩
      have hr := hide_ hr0
      have hq := hide_ (show pat v b m = r from by rw [← hr0]; exact hend.out x k (by have := hz.out; have := hzv.out; omega) hx.out (.inl (by have := hz.out; have := hzv.out; omega)))
      clear hc hr0
      go_wp2_with ((first
        | go_big_skip
        | ((with_reducible refine at_bi ?_); refine w_min _ _ r hr.out.symm rfl rfl rfl rfl ?_)
        | fail) <;> (try simp only [Act.put, List.setIfInBounds_toArray, List.set_cons_zero, List.set_cons_succ]))
      go_ret
      exact Keep.intro ⟨by rw [hq.out]; rfl, hX⟩

set_option maxRecDepth 100000 in
set_option maxHeartbeats 1600000 in
theorem RTick_any {w : World} {x : Int} (hxI : x ≤ 9223372036854775807) : Calls Try.prog 15 #[.int .i64 x] w fun e w' => e = .returned (.int .i64 (tck x)) ∧ Ext w w' := by
  refine calls_keep ?_
  have hX := Ext.refl w
  by_cases h : x < 1
  · have d : decide (x < 1) = true := decide_eq_true h
    have hq := hide_ (tck_low h)
    clear h hxI
    go_enter Try.func15, Try.ntmps15
    go_wp2
    go_ret
    exact Keep.intro ⟨by rw [hq.out]; rfl, hX⟩
  · have d : decide (x < 1) = false := decide_eq_false h
    have hq := hide_ (tck_high (x := x) (by omega))
    have h0 : 1 ≤ x := by omega
    clear h
    go_enter Try.func15, Try.ntmps15
    go_wp2
    go_ret
    exact Keep.intro ⟨by rw [hq.out]; rfl, hX⟩
end Go.Proofs.Ytddaaogicpbekaa
