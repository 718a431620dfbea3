/- The contracts of package view: Leader, Patience, Set, Tick, of any numbers. Condition: for Set and Tick a timer that lies in one cell. -/
import Derived.Test.YtddaaogicpbekaaVwN
import Derived.Test.YtddaaogicpbekaaFB
import Derived.Test.YtddaaogicpbekaaFC
namespace Go.Proofs.Ytddaaogicpbekaa
open Go.RowKit

theorem stTim : St Try.prog 26 1 [.int .i64 0] := St.of (by kernel_rfl) (by kernel_rfl) rfl

/-- From a to b. -/
def wtn (n a b : Int) : Bool := decide (a ≤ n ∧ n ≤ b)
theorem wtn_yes {n a b : Int} (h : a ≤ n ∧ n ≤ b) : wtn n a b = true := decide_eq_true h
theorem wtn_no {n a b : Int} (h : ¬ (a ≤ n ∧ n ≤ b)) : wtn n a b = false := decide_eq_false h
set_option maxRecDepth 100000 in
set_option maxHeartbeats 1600000 in
theorem Within_any {w : World} {n a b : Int} : Calls Try.prog 16 #[.int .i64 n, .int .i64 a, .int .i64 b] w fun e w' => e = .returned (.bool (wtn n a b)) ∧ Ext w w' := by
  refine calls_keep ?_
  have hX := Ext.refl w
  by_cases h1 : a ≤ n
  · by_cases h2 : n ≤ b
    · have hq := hide_ (wtn_yes ⟨h1, h2⟩)
      have t1 : decide (a ≤ n) = true := decide_eq_true h1
      have t2 : decide (n ≤ b) = true := decide_eq_true h2
      clear h1 h2
      go_enter Try.func16, Try.ntmps16
      go_wp2
      go_ret
      exact Keep.intro ⟨by rw [hq.out]; rfl, hX⟩
    · have hq := hide_ (wtn_no (n := n) (a := a) (b := b) fun h => h2 h.2)
      have t1 : decide (a ≤ n) = true := decide_eq_true h1
      have t2 : decide (n ≤ b) = false := decide_eq_false h2
      clear h1 h2
      go_enter Try.func16, Try.ntmps16
      go_wp2
      go_ret
      exact Keep.intro ⟨by rw [hq.out]; rfl, hX⟩
  · have hq := hide_ (wtn_no (n := n) (a := a) (b := b) fun h => h1 h.1)
    have t1 : decide (a ≤ n) = false := decide_eq_false h1
    clear h1
    go_enter Try.func16, Try.ntmps16
    go_wp2
    go_ret
    exact Keep.intro ⟨by rw [hq.out]; rfl, hX⟩

set_option maxRecDepth 100000 in
set_option maxHeartbeats 3200000 in
theorem Leader_any {w : World} {i v n : Int} : Calls Try.prog 10 #[.int .i64 i, .int .i64 v, .int .i64 n] w fun e w' => e = .returned (.int .i64 (ldr i v n)) ∧ Ext w w' := by
  refine calls_keep ?_
  have hX := Ext.refl w
  by_cases h1 : 0 ≤ i ∧ i ≤ 1000
  · have q1 := hide_ (wtn_yes h1)
    by_cases h2 : 0 ≤ v ∧ v ≤ 1000
    · have q2 := hide_ (wtn_yes h2)
      by_cases h3 : 1 ≤ n ∧ n ≤ 7
      · have q3 := hide_ (wtn_yes h3)
        have hq := hide_ (ldr_good (show 0 ≤ i ∧ i ≤ 1000 ∧ 0 ≤ v ∧ v ≤ 1000 ∧ 1 ≤ n ∧ n ≤ 7 by omega))
        obtain ⟨h1a, h1b⟩ := h1; obtain ⟨h2a, h2b⟩ := h2; obtain ⟨h3a, h3b⟩ := h3
        go_enter Try.func10, Try.ntmps10
        go_wp2_with (first
          | (go_at_call 16; refine Within_any.mono ?_; rintro e w4 ⟨rfl, hx⟩; (first | rw [q1.out] | rw [q2.out] | rw [q3.out]); replace hX := hX.trans hx; clear hx)
          | fail)
        go_ret
        exact Keep.intro ⟨by rw [hq.out]; rfl, hX⟩
      · have q3 := hide_ (wtn_no h3)
        have hq := hide_ (ldr_bad (i := i) (v := v) (n := n) fun h => h3 ⟨h.2.2.2.2.1, h.2.2.2.2.2⟩)
        clear h1 h2 h3
        go_enter Try.func10, Try.ntmps10
        go_wp2_with (first
          | (go_at_call 16; refine Within_any.mono ?_; rintro e w4 ⟨rfl, hx⟩; (first | rw [q1.out] | rw [q2.out] | rw [q3.out]); replace hX := hX.trans hx; clear hx)
          | fail)
        go_ret
        exact Keep.intro ⟨by rw [hq.out]; rfl, hX⟩
    · have q2 := hide_ (wtn_no h2)
      have hq := hide_ (ldr_bad (i := i) (v := v) (n := n) fun h => h2 ⟨h.2.2.1, h.2.2.2.1⟩)
      clear h1 h2
      go_enter Try.func10, Try.ntmps10
      go_wp2_with (first
        | go_big_skip
        | (go_at_call 16; refine Within_any.mono ?_; rintro e w4 ⟨rfl, hx⟩; (first | rw [q1.out] | rw [q2.out]); replace hX := hX.trans hx; clear hx)
        | fail)
      go_ret
      exact Keep.intro ⟨by rw [hq.out]; rfl, hX⟩
  · have q1 := hide_ (wtn_no h1)
    have hq := hide_ (ldr_bad (i := i) (v := v) (n := n) fun h => h1 ⟨h.1, h.2.1⟩)
    clear h1
    go_enter Try.func10, Try.ntmps10
    go_wp2_with (first
      | go_big_skip
      | (go_at_call 16; refine Within_any.mono ?_; rintro e w4 ⟨rfl, hx⟩; rw [q1.out]; replace hX := hX.trans hx; clear hx)
      | fail)
    go_ret
    exact Keep.intro ⟨by rw [hq.out]; rfl, hX⟩

/-! ### Patience -/
set_option maxRecDepth 100000 in
set_option maxHeartbeats 3200000 in
theorem Patience_any {w : World} {v b m : Int} (hvI : v ≤ 9223372036854775807) : Calls Try.prog 9 #[.int .i64 v, .int .i64 b, .int .i64 m] w fun e w' => e = .returned (.int .i64 (pat v b m)) ∧ Ext w w' := by
  refine calls_keep ?_
  have hX := Ext.refl w
  by_cases h1 : 1 ≤ m ∧ m ≤ 1000
  · have q1 := hide_ (wtn_yes h1)
    by_cases h0 : v < 0
    · have d0 : decide (v < 0) = true := decide_eq_true h0
      have hq := hide_ (pat_cap (v := v) (b := b) h1 fun h => by omega)
      clear h0 h1 hvI
      go_enter Try.func9, Try.ntmps9
      go_wp2_with (first
        | go_big_skip
        | (go_at_call 16; refine Within_any.mono ?_; rintro e w4 ⟨rfl, hx⟩; rw [q1.out]; replace hX := hX.trans hx; clear hx)
        | fail)
      go_ret
      exact Keep.intro ⟨by rw [hq.out]; rfl, hX⟩
    have d0 : decide (v < 0) = false := decide_eq_false h0
    by_cases h2 : 1 ≤ b ∧ b ≤ 100
    · have q2 := hide_ (wtn_yes h2)
      have hend := hide_ (fun (y : Int) (k : Nat) => pat_end (v := v) (b := b) (m := m) (y := y) (k := k) h1 ⟨by omega, h2⟩)
      have hpos := hide_ (grw_pos h2.1)
      obtain ⟨h1a, h1b⟩ := h1
      have hb0 := hide_ (show 0 < b ∧ b ≤ 2000 by omega)
      have hv0 := hide_ (show 0 ≤ v by omega)
      have hvI' := hide_ hvI
      clear h2 h0 hvI
      go_enter Try.func9, Try.ntmps9
      go_wp2_with (first
        | (go_at_call 16; refine Within_any.mono ?_; rintro e w4 ⟨rfl, hx⟩; (first | rw [q1.out] | rw [q2.out]); replace hX := hX.trans hx; clear hx)
        | fail)
      clear d0
      go_loopw [0, 7] (fun r y wr => ∃ (z x : Int) (k : Nat), r = .int .i64 z ∧ y = .int .i64 x ∧ Hid (z = v - k) ∧ Hid (x = grw b k) ∧ 0 ≤ z ∧ z ≤ 9223372036854775807 ∧ 0 < x ∧ x ≤ 2000 ∧ Ext w wr) (fun r _ _ => (RowKit.intOf r).toNat)
      case atStart => exact ⟨v, b, 0, rfl, rfl, hide_ (by simp), hide_ (by rw [grw_zero]), hv0.out, hvI'.out, hb0.out.1, hb0.out.2, hX⟩
      case round =>
        clear hX
        obtain ⟨z, x, k, rfl, rfl, hz, hx, hz0, hzI, hx0, hx1, hX⟩ := hrel
        by_cases hc : 0 < z
        · have d1 : decide (0 < z) = true := decide_eq_true hc
          by_cases hc2 : x < m
          · have d2 : decide (x < m) = true := decide_eq_true hc2
            go_wp2
            go_roundw
            case rel => exact ⟨z - 1, x * 2, k + 1, rfl, rfl, hide_ (by have := hz.out; omega), hide_ (by rw [grw_succ, ← hx.out]), by omega, by omega, by omega, by omega, hX⟩
            case measure => simp [RowKit.intOf]; omega
          · have d2 : decide (x < m) = false := decide_eq_false hc2
            obtain ⟨r, hr0⟩ : ∃ r, min x m = r := ⟨_, rfl⟩
            have hr := hide_ hr0
            have hq := hide_ (show pat v b m = r from by rw [← hr0]; exact hend.out x k (by have := hz.out; omega) hx.out (.inr (by omega)))
            clear hc hc2 hr0
            go_wp2_with ((first
              | ((with_reducible refine at_bi ?_); refine w_min _ _ r hr.out.symm rfl rfl rfl rfl ?_)
              | fail) <;> (try simp only [Act.put, List.setIfInBounds_toArray, List.set_cons_zero, List.set_cons_succ]))
            go_ret
            exact Keep.intro ⟨by rw [hq.out]; rfl, hX⟩
        · have d1 : decide (0 < z) = false := decide_eq_false hc
          obtain ⟨r, hr0⟩ : ∃ r, min x m = r := ⟨_, rfl⟩
          have hr := hide_ hr0
          have hq := hide_ (show pat v b m = r from by rw [← hr0]; exact hend.out x k (by have := hz.out; omega) hx.out (.inl (by have := hz.out; omega)))
          clear hc hr0
          go_wp2_with ((first
            | go_big_skip
            | ((with_reducible refine at_bi ?_); refine w_min _ _ r hr.out.symm rfl rfl rfl rfl ?_)
            | fail) <;> (try simp only [Act.put, List.setIfInBounds_toArray, List.set_cons_zero, List.set_cons_succ]))
          go_ret
          exact Keep.intro ⟨by rw [hq.out]; rfl, hX⟩
    · have q2 := hide_ (wtn_no h2)
      have hq := hide_ (pat_cap (v := v) (b := b) h1 fun h => h2 h.2)
      clear h0 h1 h2 hvI
      go_enter Try.func9, Try.ntmps9
      go_wp2_with (first
        | (go_at_call 16; refine Within_any.mono ?_; rintro e w4 ⟨rfl, hx⟩; (first | rw [q1.out] | rw [q2.out]); replace hX := hX.trans hx; clear hx)
        | fail)
      go_ret
      exact Keep.intro ⟨by rw [hq.out]; rfl, hX⟩
  · have q1 := hide_ (wtn_no h1)
    have hq := hide_ (pat_bad (v := v) (b := b) h1)
    clear h1 hvI
    go_enter Try.func9, Try.ntmps9
    go_wp2_with (first
      | (go_at_call 16; refine Within_any.mono ?_; rintro e w4 ⟨rfl, hx⟩; rw [q1.out]; replace hX := hX.trans hx; clear hx)
      | fail)
    go_ret
    exact Keep.intro ⟨by rw [hq.out]; rfl, hX⟩

/-! ### Set, Tick -/
set_option maxRecDepth 100000 in
set_option maxHeartbeats 1600000 in
theorem Set_any {w : World} {g : Nat} {u : Value} {v b m : Int} (f00 : Fs w g [u]) (hvI : v ≤ 9223372036854775807) :
    Calls Try.prog 13 #[.pointer (some ⟨g, 0, none⟩), .int .i64 v, .int .i64 b, .int .i64 m] w fun e w' => e = .returned (.tuple #[]) ∧ ∃ w1, Ext w w1 ∧ Mod (fun k => k = g) w1 w' ∧ Fs w' g [.int .i64 (pat v b m)] := by
  refine calls_keep ?_
  have hX := Ext.refl w
  replace f00 := hide_ f00
  have hvI' := hide_ hvI
  obtain ⟨r, hr0⟩ : ∃ r, pat v b m = r := ⟨_, rfl⟩
  have hr := hide_ hr0
  rw [hr0]
  clear hr0 hvI
  go_enter Try.func13, Try.ntmps13
  go_wp2_with ((first
    | (go_at_call 9; refine (Patience_any hvI'.out).mono ?_; rintro e w4 ⟨rfl, hx⟩; rw [hr.out]; replace hX := hX.trans hx; clear hx)
    | ((with_reducible refine at_field ?_); refine w_field stTim _ _ _ rfl rfl rfl (by omega) ?_)
    | ((with_reducible refine at_store ?_); refine w_fstore _ _ (u := .int .i64 r) rfl rfl rfl rfl rfl (f00.out.ext hX) (by simp) rfl rfl (by kernel_rfl) ?_; intro w6 hmd f2)
    | fail) <;> (try simp only [Act.put, List.setIfInBounds_toArray, List.set_cons_zero, List.set_cons_succ]))
  go_end0
  exact Keep.intro ⟨rfl, w4, hX, hmd, f2⟩
set_option maxRecDepth 100000 in
set_option maxHeartbeats 1600000 in
theorem Tick_any {w : World} {g : Nat} {x : Int} (f00 : Fs w g [.int .i64 x]) (hxI : x ≤ 9223372036854775807) :
    Calls Try.prog 14 #[.pointer (some ⟨g, 0, none⟩)] w fun e w' => e = .returned (.bool (decide (tck x = 0))) ∧ Mod (fun k => k = g) w w' ∧ Fs w' g [.int .i64 (tck x)] := by
  refine calls_keep ?_
  replace f00 := hide_ f00
  obtain ⟨y, hy0⟩ : ∃ y, tck x = y := ⟨_, rfl⟩
  obtain ⟨z, hz0⟩ : ∃ z, max x 1 = z := ⟨_, rfl⟩
  have hz := hide_ hz0
  have hzy := hide_ (show z - 1 = y from by rw [← hz0, ← hy0]; rfl)
  have hz1 : 1 ≤ z := by omega
  have hz2 : z ≤ 9223372036854775807 := by omega
  rw [hy0]
  obtain ⟨q, hq0⟩ : ∃ q, decide (y = 0) = q := ⟨_, rfl⟩
  have hq := hide_ hq0
  rw [hq0]
  have hqb : (y == 0) = q := by rw [← hq0]; by_cases h : y = 0 <;> simp [h]
  clear hy0 hz0 hxI hq0
  go_enter Try.func14, Try.ntmps14
  go_wp2_with ((first
    | ((with_reducible refine at_field ?_); refine w_field stTim _ _ _ rfl rfl rfl (by omega) ?_)
    | ((with_reducible refine at_load ?_); refine w_fload _ rfl rfl rfl f2 rfl (agg_of (by kernel_rfl)) ?_)
    | ((with_reducible refine at_load ?_); refine w_fload _ rfl rfl rfl f00.out rfl (agg_of (by kernel_rfl)) ?_)
    | ((with_reducible refine at_bi ?_); refine w_max _ _ z hz.out.symm rfl rfl rfl rfl ?_)
    | ((with_reducible refine at_store ?_); refine w_fstore _ _ (u := .int .i64 y) rfl rfl rfl rfl (by rw [← hzy.out]; rfl) f00.out (by simp) rfl rfl (by kernel_rfl) ?_; intro w6 hmd f2)
    | fail) <;> (try simp only [Act.put, List.setIfInBounds_toArray, List.set_cons_zero, List.set_cons_succ]))
  go_ret
  exact Keep.intro ⟨rfl, hmd, f2⟩
end Go.Proofs.Ytddaaogicpbekaa
