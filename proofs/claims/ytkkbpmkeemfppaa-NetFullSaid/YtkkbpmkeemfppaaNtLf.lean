/- NetFull returns true: so many have room in a bag, and no more; taken one by one they come in the order in which they went in; what is doubled comes last. No condition: any numbers. -/
import Derived.Test.YtkkbpmkeemfppaaNtLa
import Derived.Deep.Cut
namespace Go.Proofs.Ytkkbpmkeemfppaa
open Go.RowKit Go.ChangeShapes Go.WideShapes Go.ChangeAt

/-- k numbers from f on, as far as there is room. -/
def fillL (f : Int) (k : Nat) : List Int := (List.range (min k 4000)).map fun (i : Nat) => f + (i : Int)
theorem fill_len (f : Int) (k : Nat) : (fillL f k).length = min k 4000 := by simp [fillL]
theorem fill_add (f : Int) {k : Nat} (h : k < 4000) : fillL f k ++ [f + (k : Int)] = fillL f (k + 1) := by
  unfold fillL
  rw [Nat.min_eq_left (by omega), Nat.min_eq_left (by omega), List.range_succ, List.map_append]; rfl
theorem fill_full (f : Int) {k : Nat} (h : ¬ k < 4000) : fillL f k = fillL f (k + 1) := by
  unfold fillL
  rw [Nat.min_eq_right (by omega), Nat.min_eq_right (by omega)]
theorem fill_get (f : Int) {k i : Nat} (h : i < min k 4000) : (fillL f k)[i]? = some (f + (i : Int)) := by
  unfold fillL
  rw [List.getElem?_map, List.getElem?_range h]; rfl
theorem at_drop {l : List Int} {j : Nat} {x : Int} (h : l[j]? = some x) : atB (l.drop j) 0 = true ∧ atV (l.drop j) 0 = x := by
  have hj := (List.getElem?_eq_some_iff.1 h).1
  have h1 : atB (l.drop j) 0 = true := by unfold atB; rw [List.length_drop]; exact decide_eq_true (by omega)
  refine ⟨h1, ?_⟩
  unfold atV
  rw [h1, if_pos rfl]
  simp [h]
theorem at_getN {l : List Int} {j : Nat} {x : Int} (h : l[j]? = some x) : atB l (j : Int) = true ∧ atV l (j : Int) = x := by
  have hj := (List.getElem?_eq_some_iff.1 h).1
  have h1 : atB l (j : Int) = true := decide_eq_true (by omega)
  refine ⟨h1, ?_⟩
  unfold atV
  rw [h1, if_pos rfl]
  simp [h]
theorem erase_drop (l : List Int) (j : Nat) : (l.drop j).eraseIdx 0 = l.drop (j + 1) := by
  rw [List.eraseIdx_zero, List.tail_drop]
set_option maxRecDepth 100000 in
set_option maxHeartbeats 3200000 in
theorem netFull_law (m f : Int) (w : World) : Calls Try.prog 6 #[.int .i64 m, .int .i64 f] w fun e w' => e = .returned (.bool true) ∧ Ext w w' := by
  refine calls_keep ?_
  have hX := Ext.refl w
  go_enter Try.func6, Try.ntmps6
  go_upto_region 3 with (first
    | (go_at_call 12; refine (netAlive_any _).mono ?_; rintro e w4 ⟨rfl, hx⟩; replace hX := hX.trans hx; clear hx)
    | fail)
  by_cases h1 : m < 0
  · have d1 : decide (m < 0) = true := decide_eq_true h1
    clear h1
    go_wp2_with (first
      | go_big_skip
      | fail)
    go_ret
    exact Keep.intro ⟨rfl, hX⟩
  have d1 : decide (m < 0) = false := decide_eq_false h1
  by_cases h2 : (4100 : Int) < m
  · have d2 : decide ((4100 : Int) < m) = true := decide_eq_true h2
    clear h1 h2
    go_wp2_with (first
      | go_big_skip
      | fail)
    go_ret
    exact Keep.intro ⟨rfl, hX⟩
  have d2 : decide ((4100 : Int) < m) = false := decide_eq_false h2
  by_cases h3 : f < 0
  · have d3 : decide (f < 0) = true := decide_eq_true h3
    clear h1 h2 h3
    go_wp2_with (first
      | go_big_skip
      | fail)
    go_ret
    exact Keep.intro ⟨rfl, hX⟩
  have d3 : decide (f < 0) = false := decide_eq_false h3
  by_cases h4 : (1000000 : Int) < f
  · have d4 : decide ((1000000 : Int) < f) = true := decide_eq_true h4
    clear h1 h2 h3 h4
    go_wp2_with (first
      | go_big_skip
      | fail)
    go_ret
    exact Keep.intro ⟨rfl, hX⟩
  have d4 : decide ((1000000 : Int) < f) = false := decide_eq_false h4
  obtain ⟨n, rfl⟩ : ∃ n : Nat, m = n := ⟨m.toNat, by omega⟩
  have hn : n ≤ 4100 := by omega
  have hf0 : 0 ≤ f := by omega
  have hf1 : f ≤ 1000000 := by omega
  clear h1 h2 h3 h4
  go_wp2_with (first
    | go_big_skip
    | (go_at_call 14; refine (BNew_any).mono ?_; rintro e w4 ⟨p, F, rfl, hB, hx, hF⟩; replace hB := hide_ hB; have hO := hide_ (show Out w F w4 from ⟨hX.trans hx, fun k hk => Nat.le_trans hX.size (hF k hk)⟩); clear hx hF hX)
    | fail)
  go_loopw [6] (fun i wr => ∃ (k : Nat) (F : Nat → Prop), i = .int .i64 k ∧ k ≤ n ∧ Hid (Bg F wr p (fillL f k)) ∧ Hid (Out w F wr)) (fun i _ => n - (RowKit.intOf i).toNat)
  case atStart => exact ⟨0, F, rfl, Nat.zero_le _, hB, hO⟩
  case round =>
    clear hB hO F
    obtain ⟨k, F, rfl, hk, hB, hO⟩ := hrel
    by_cases hge : n ≤ k
    rotate_left
    · have hlt : k < n := by omega
      have t1 : decide ((k : Int) < (n : Int)) = true := decide_eq_true (by omega)
      have t1' : decide (k < n) = true := decide_eq_true hlt
      have hlt' := hide_ hlt
      have hkb : k < 4100 := by omega
      clear hge hk
      by_cases h4 : k < 4000
      · have t2 : decide ((k : Int) < 4000) = true := decide_eq_true (by omega)
        have t2' : decide (k < 4000) = true := decide_eq_true h4
        have hq := hide_ (show decide ((fillL f k).length < 4000) = true from by rw [fill_len]; exact decide_eq_true (by omega))
        have hnx := hide_ (fill_add f h4)
        clear h4 hlt
        go_wp2_with (first
          | (go_at_call 15; refine (BPut_any (x := f + (k : Int)) hB.out hq.out).mono ?_; rintro e w4 ⟨rfl, hB2, hm⟩; rw [if_pos rfl, hnx.out] at hB2; replace hB := hide_ hB2; clear hB2; replace hO := hide_ (hO.out.upd ⟨hm, fun _ h => .inl h⟩); clear hm)
          | fail)
        go_roundw
        case rel => exact ⟨k + 1, F, by go_num, hlt'.out, hB, hO⟩
        case measure => have := hlt'.out; simp [RowKit.intOf]; omega
      · have t2 : decide ((k : Int) < 4000) = false := decide_eq_false (by omega)
        have t2' : decide (k < 4000) = false := decide_eq_false h4
        have hq := hide_ (show decide ((fillL f k).length < 4000) = false from by rw [fill_len]; exact decide_eq_false (by omega))
        have hnx := hide_ (fill_full f h4)
        clear h4 hlt
        go_wp2_with (first
          | (go_at_call 15; refine (BPut_any (x := f + (k : Int)) hB.out hq.out).mono ?_; rintro e w4 ⟨rfl, hB2, hm⟩; rw [if_neg (by decide), hnx.out] at hB2; replace hB := hide_ hB2; clear hB2; replace hO := hide_ (hO.out.upd ⟨hm, fun _ h => .inl h⟩); clear hm)
          | fail)
        go_roundw
        case rel => exact ⟨k + 1, F, by go_num, hlt'.out, hB, hO⟩
        case measure => have := hlt'.out; simp [RowKit.intOf]; omega
    obtain rfl : k = n := by omega
    have t1 : decide ((k : Int) < (k : Int)) = false := decide_eq_false (by omega)
    have t1' : decide (k < k) = false := decide_eq_false (by omega)
    obtain ⟨r, hr⟩ : ∃ r, min k 4000 = r := ⟨_, rfl⟩
    have hrl := hide_ (show (fillL f k).length = r from by rw [fill_len, hr])
    have hmin := hide_ (show (r : Int) = min (k : Int) 4000 from by omega)
    have hr4 : r ≤ 4000 := by omega
    obtain ⟨j30, hj30⟩ : ∃ j, min r 30 = j := ⟨_, rfl⟩
    have hmin2 := hide_ (show (j30 : Int) = min (r : Int) 30 from by omega)
    have hj30b : j30 ≤ 30 := by omega
    have hj30r : j30 ≤ r := by omega
    have hget := hide_ (show ∀ i : Nat, i < r → (fillL f k)[i]? = some (f + (i : Int)) from fun i hi => fill_get f (by omega))
    clear hge hk hr hj30
    obtain ⟨D, hD⟩ : ∃ D, (decide (0 < r) && decide (r < 4000)) = D := ⟨_, rfl⟩
    have hways : (D = true ∧ 0 < r ∧ r < 4000) ∨ (D = false ∧ r = 0) ∨ (D = false ∧ r = 4000) := by
      rw [← hD]
      by_cases h1 : 0 < r
      · by_cases h2 : r < 4000
        · exact .inl ⟨by simp [h1, h2], h1, h2⟩
        · exact .inr (.inr ⟨by simp [h2], by omega⟩)
      · exact .inr (.inl ⟨by simp [h1], by omega⟩)
    rcases hways with ⟨rfl, hr1, hr2⟩ | ⟨rfl, hr1⟩ | ⟨rfl, hr1⟩
    · skip
      have q1 := hide_ (at_getN (hget.out 0 hr1)).1
      have q2 := hide_ (show atV (fillL f k) 0 = f from by have := (at_getN (hget.out 0 hr1)).2; simpa using this)
      have q3 := hide_ (show (true && decide ((fillL f k).length < 4000)) = true from by rw [hrl.out, decide_eq_true hr2]; rfl)
      obtain ⟨M, hM⟩ : ∃ M, fillL f k ++ [f] = M := ⟨_, rfl⟩
      have hML := hide_ (show M.length = r + 1 from by rw [← hM]; simp [hrl.out])
      have hMg := hide_ (show ∀ i : Nat, i < r → M[i]? = some (f + (i : Int)) from fun i hi => by rw [← hM, List.getElem?_append_left (by rw [hrl.out]; exact hi)]; exact hget.out i hi)
      have hMl := hide_ (show M[r]? = some f from by rw [← hM, ← hrl.out]; simp)
      have d5 : decide ((0 : Int) < (r : Int)) = true := decide_eq_true (by omega)
      have d6 : decide ((r : Int) < 4000) = true := decide_eq_true (by omega)
      have d7 : decide (0 < r) = true := decide_eq_true hr1
      have d8 : decide (r < 4000) = true := decide_eq_true hr2
      have hMM := hide_ hM
      clear hM hr1 hr2
      go_wp2_with ((first
        | go_big_skip
        | ((with_reducible refine at_bi ?_); (try refine w_yes _ _ _ rfl rfl rfl ?_); refine w_min _ _ (r : Int) hmin.out rfl rfl rfl rfl ?_)
        | (go_at_call 19; refine (BDouble_any hB.out q1.out q2.out q3.out).mono ?_; rintro e w4 ⟨rfl, F2, hU, hB2⟩; rw [if_pos rfl, hMM.out] at hB2; replace hO := hide_ (hO.out.upd hU); replace hB := hide_ hB2; clear hB2 hU)
        | fail) <;> (try simp only [Act.put, List.setIfInBounds_toArray, List.set_cons_zero, List.set_cons_succ]))
      go_loopw [9] (fun i wr => ∃ (j : Nat) (F : Nat → Prop), i = .int .i64 j ∧ j ≤ j30 ∧ Hid (Bg F wr p (M.drop j)) ∧ Hid (Out w F wr)) (fun i _ => j30 - (RowKit.intOf i).toNat)
      case atStart => exact ⟨0, F2, rfl, Nat.zero_le _, hB, hO⟩
      case round =>
        clear hB hO F2
        obtain ⟨j, F2, rfl, hj, hB, hO⟩ := hrel
        by_cases hge : j30 ≤ j
        rotate_left
        · have hlt : j < j30 := by omega
          have t2 : decide ((j : Int) < (j30 : Int)) = true := decide_eq_true (by omega)
          have t2' : decide (j < j30) = true := decide_eq_true hlt
          have hlt' := hide_ hlt
          have hjb : j < 30 := by omega
          have u1 := hide_ (at_drop (hMg.out j (by omega))).1
          have u2 := hide_ (at_drop (hMg.out j (by omega))).2
          have u3 := hide_ (erase_drop M j)
          have u4 : ((f + (j : Int)) != (f + (j : Int))) = false := by simp
          clear hge hj hlt
          go_wp2_with ((first
            | go_big_skip
            | ((with_reducible refine at_bi ?_); (try refine w_yes _ _ _ rfl rfl rfl ?_); refine w_min _ _ (j30 : Int) hmin2.out rfl rfl rfl rfl ?_)
            | (go_at_call 17; refine (BTake_any hB.out u1.out u2.out).mono ?_; rintro e w4 ⟨rfl, F3, hU, hB2⟩; rw [if_pos rfl, Int.toNat_zero, u3.out] at hB2; replace hO := hide_ (hO.out.upd hU); replace hB := hide_ hB2; clear hB2 hU)
            | fail) <;> (try simp only [Act.put, List.setIfInBounds_toArray, List.set_cons_zero, List.set_cons_succ]))
          go_roundw
          case rel => exact ⟨j + 1, F3, by go_num, hlt'.out, hB, hO⟩
          case measure => have := hlt'.out; simp [RowKit.intOf]; omega
        obtain rfl : j = j30 := by omega
        have t2 : decide ((j : Int) < (j : Int)) = false := decide_eq_false (by omega)
        have t2' : decide (j < j) = false := decide_eq_false (by omega)
        clear hge hj
        have v1 := hide_ (show ((M.drop j).length : Int) = ((r + 1 - j : Nat) : Int) from by rw [List.length_drop, hML.out])
        have v2 := hide_ (show (M.drop j)[r - j]? = some f from by rw [List.getElem?_drop, Nat.add_sub_cancel' hj30r]; exact hMl.out)
        have v3 : ((r + 1 - j : Nat) : Int) - 1 = ((r - j : Nat) : Int) := by omega
        have v4 := hide_ (at_getN v2.out).1
        have v5 := hide_ (at_getN v2.out).2
        have v6 : (f == f) = true := by simp
        have v7 : r + 1 - j ≤ 4001 := by omega
        have v8 : 1 ≤ r + 1 - j := by omega
        obtain ⟨n1, hn1⟩ : ∃ n, r + 1 - j = n := ⟨_, rfl⟩
        obtain ⟨n2, hn2⟩ : ∃ n, r - j = n := ⟨_, rfl⟩
        rw [hn1] at v1 v3 v7 v8
        rw [hn2] at v2 v3 v4 v5
        have v9 : (n1 : Int) - 1 = (n2 : Int) := v3
        clear hn1 hn2 v3
        go_wp2_with ((first
          | go_big_skip
          | ((with_reducible refine at_bi ?_); (try refine w_yes _ _ _ rfl rfl rfl ?_); refine w_min _ _ (j : Int) hmin2.out rfl rfl rfl rfl ?_)
          | (go_at_call 22; refine (BLenN_any hB.out v1.out).mono ?_; rintro e w4 ⟨rfl, hx⟩; replace hB := hide_ (hB.out.ext hx); replace hO := hide_ (hO.out.extend hx); clear hx)
          | (go_at_call 21; (try rw [v9]); refine (BAt_any (i := (n2 : Int)) hB.out v4.out v5.out).mono ?_; rintro e w4 ⟨rfl, F4, hU, hz⟩; replace hO := hide_ (hO.out.upd hU); clear hU hz)
          | fail) <;> (try simp only [Act.put, List.setIfInBounds_toArray, List.set_cons_zero, List.set_cons_succ]))
        go_ret
        exact Keep.intro ⟨rfl, hO.out.ext⟩
    · skip
      subst hr1
      have q1 := hide_ (show atB (fillL f k) 0 = false from decide_eq_false (by rw [hrl.out]; omega))
      obtain ⟨z0, hz0⟩ : ∃ z, atV (fillL f k) 0 = z := ⟨_, rfl⟩
      have q2 := hide_ hz0
      have q3 := hide_ (show (false && decide ((fillL f k).length < 4000)) = false from rfl)
      obtain ⟨M, hM⟩ : ∃ M, fillL f k = M := ⟨_, rfl⟩
      have hML := hide_ (show M.length = 0 from by rw [← hM]; exact hrl.out)
      have hMg := hide_ (show ∀ i : Nat, i < 0 → M[i]? = some (f + (i : Int)) from fun i hi => by omega)
      have hMM := hide_ hM
      clear hM hz0
      go_wp2_with ((first
        | go_big_skip
        | ((with_reducible refine at_bi ?_); (try refine w_yes _ _ _ rfl rfl rfl ?_); refine w_min _ _ (0 : Int) hmin.out rfl rfl rfl rfl ?_)
        | (go_at_call 19; refine (BDouble_any hB.out q1.out q2.out q3.out).mono ?_; rintro e w4 ⟨rfl, F2, hU, hB2⟩; rw [if_neg (by decide), hMM.out] at hB2; replace hO := hide_ (hO.out.upd hU); replace hB := hide_ hB2; clear hB2 hU)
        | fail) <;> (try simp only [Act.put, List.setIfInBounds_toArray, List.set_cons_zero, List.set_cons_succ]))
      go_loopw [9] (fun i wr => ∃ (j : Nat) (F : Nat → Prop), i = .int .i64 j ∧ j ≤ j30 ∧ Hid (Bg F wr p (M.drop j)) ∧ Hid (Out w F wr)) (fun i _ => j30 - (RowKit.intOf i).toNat)
      case atStart => exact ⟨0, F2, rfl, Nat.zero_le _, hB, hO⟩
      case round =>
        clear hB hO F2
        obtain ⟨j, F2, rfl, hj, hB, hO⟩ := hrel
        by_cases hge : j30 ≤ j
        rotate_left
        · have hlt : j < j30 := by omega
          have t2 : decide ((j : Int) < (j30 : Int)) = true := decide_eq_true (by omega)
          have t2' : decide (j < j30) = true := decide_eq_true hlt
          have hlt' := hide_ hlt
          have hjb : j < 30 := by omega
          have u1 := hide_ (at_drop (hMg.out j (by omega))).1
          have u2 := hide_ (at_drop (hMg.out j (by omega))).2
          have u3 := hide_ (erase_drop M j)
          have u4 : ((f + (j : Int)) != (f + (j : Int))) = false := by simp
          clear hge hj hlt
          go_wp2_with ((first
            | go_big_skip
            | ((with_reducible refine at_bi ?_); (try refine w_yes _ _ _ rfl rfl rfl ?_); refine w_min _ _ (j30 : Int) hmin2.out rfl rfl rfl rfl ?_)
            | (go_at_call 17; refine (BTake_any hB.out u1.out u2.out).mono ?_; rintro e w4 ⟨rfl, F3, hU, hB2⟩; rw [if_pos rfl, Int.toNat_zero, u3.out] at hB2; replace hO := hide_ (hO.out.upd hU); replace hB := hide_ hB2; clear hB2 hU)
            | fail) <;> (try simp only [Act.put, List.setIfInBounds_toArray, List.set_cons_zero, List.set_cons_succ]))
          go_roundw
          case rel => exact ⟨j + 1, F3, by go_num, hlt'.out, hB, hO⟩
          case measure => have := hlt'.out; simp [RowKit.intOf]; omega
        obtain rfl : j = j30 := by omega
        have t2 : decide ((j : Int) < (j : Int)) = false := decide_eq_false (by omega)
        have t2' : decide (j < j) = false := decide_eq_false (by omega)
        clear hge hj
        have v1 := hide_ (show ((M.drop j).length : Int) = ((0 - j : Nat) : Int) from by rw [List.length_drop, hML.out])
        obtain ⟨n1, hn1⟩ : ∃ n, 0 - j = n := ⟨_, rfl⟩
        rw [hn1] at v1
        have v2 : (0 : Int) - (j : Int) = (n1 : Int) := by omega
        have v3 : ((n1 : Int) == (n1 : Int)) = true := by simp
        clear hn1
        go_wp2_with ((first
          | go_big_skip
          | ((with_reducible refine at_bi ?_); (try refine w_yes _ _ _ rfl rfl rfl ?_); refine w_min _ _ (j : Int) hmin2.out rfl rfl rfl rfl ?_)
          | (go_at_call 22; refine (BLenN_any hB.out v1.out).mono ?_; rintro e w4 ⟨rfl, hx⟩; replace hB := hide_ (hB.out.ext hx); replace hO := hide_ (hO.out.extend hx); clear hx)
          | fail) <;> (try simp only [Act.put, List.setIfInBounds_toArray, List.set_cons_zero, List.set_cons_succ]))
        go_ret
        exact Keep.intro ⟨rfl, hO.out.ext⟩
    · skip
      subst hr1
      have q1 := hide_ (at_getN (hget.out 0 (by omega))).1
      have q2 := hide_ (show atV (fillL f k) 0 = f from by have := (at_getN (hget.out 0 (by omega))).2; simpa using this)
      have q3 := hide_ (show (true && decide ((fillL f k).length < 4000)) = false from by rw [hrl.out]; rfl)
      obtain ⟨M, hM⟩ : ∃ M, fillL f k = M := ⟨_, rfl⟩
      have hML := hide_ (show M.length = 4000 from by rw [← hM]; exact hrl.out)
      have hMg := hide_ (show ∀ i : Nat, i < 4000 → M[i]? = some (f + (i : Int)) from fun i hi => by rw [← hM]; exact hget.out i hi)
      have hMM := hide_ hM
      clear hM
      go_wp2_with ((first
        | go_big_skip
        | ((with_reducible refine at_bi ?_); (try refine w_yes _ _ _ rfl rfl rfl ?_); refine w_min _ _ (4000 : Int) hmin.out rfl rfl rfl rfl ?_)
        | (go_at_call 19; refine (BDouble_any hB.out q1.out q2.out q3.out).mono ?_; rintro e w4 ⟨rfl, F2, hU, hB2⟩; rw [if_neg (by decide), hMM.out] at hB2; replace hO := hide_ (hO.out.upd hU); replace hB := hide_ hB2; clear hB2 hU)
        | fail) <;> (try simp only [Act.put, List.setIfInBounds_toArray, List.set_cons_zero, List.set_cons_succ]))
      go_loopw [9] (fun i wr => ∃ (j : Nat) (F : Nat → Prop), i = .int .i64 j ∧ j ≤ j30 ∧ Hid (Bg F wr p (M.drop j)) ∧ Hid (Out w F wr)) (fun i _ => j30 - (RowKit.intOf i).toNat)
      case atStart => exact ⟨0, F2, rfl, Nat.zero_le _, hB, hO⟩
      case round =>
        clear hB hO F2
        obtain ⟨j, F2, rfl, hj, hB, hO⟩ := hrel
        by_cases hge : j30 ≤ j
        rotate_left
        · have hlt : j < j30 := by omega
          have t2 : decide ((j : Int) < (j30 : Int)) = true := decide_eq_true (by omega)
          have t2' : decide (j < j30) = true := decide_eq_true hlt
          have hlt' := hide_ hlt
          have hjb : j < 30 := by omega
          have u1 := hide_ (at_drop (hMg.out j (by omega))).1
          have u2 := hide_ (at_drop (hMg.out j (by omega))).2
          have u3 := hide_ (erase_drop M j)
          have u4 : ((f + (j : Int)) != (f + (j : Int))) = false := by simp
          clear hge hj hlt
          go_wp2_with ((first
            | go_big_skip
            | ((with_reducible refine at_bi ?_); (try refine w_yes _ _ _ rfl rfl rfl ?_); refine w_min _ _ (j30 : Int) hmin2.out rfl rfl rfl rfl ?_)
            | (go_at_call 17; refine (BTake_any hB.out u1.out u2.out).mono ?_; rintro e w4 ⟨rfl, F3, hU, hB2⟩; rw [if_pos rfl, Int.toNat_zero, u3.out] at hB2; replace hO := hide_ (hO.out.upd hU); replace hB := hide_ hB2; clear hB2 hU)
            | fail) <;> (try simp only [Act.put, List.setIfInBounds_toArray, List.set_cons_zero, List.set_cons_succ]))
          go_roundw
          case rel => exact ⟨j + 1, F3, by go_num, hlt'.out, hB, hO⟩
          case measure => have := hlt'.out; simp [RowKit.intOf]; omega
        obtain rfl : j = j30 := by omega
        have t2 : decide ((j : Int) < (j : Int)) = false := decide_eq_false (by omega)
        have t2' : decide (j < j) = false := decide_eq_false (by omega)
        clear hge hj
        have v1 := hide_ (show ((M.drop j).length : Int) = ((4000 - j : Nat) : Int) from by rw [List.length_drop, hML.out])
        obtain ⟨n1, hn1⟩ : ∃ n, 4000 - j = n := ⟨_, rfl⟩
        rw [hn1] at v1
        have v2 : (4000 : Int) - (j : Int) = (n1 : Int) := by omega
        have v3 : ((n1 : Int) == (n1 : Int)) = true := by simp
        clear hn1
        go_wp2_with ((first
          | go_big_skip
          | ((with_reducible refine at_bi ?_); (try refine w_yes _ _ _ rfl rfl rfl ?_); refine w_min _ _ (j : Int) hmin2.out rfl rfl rfl rfl ?_)
          | (go_at_call 22; refine (BLenN_any hB.out v1.out).mono ?_; rintro e w4 ⟨rfl, hx⟩; replace hB := hide_ (hB.out.ext hx); replace hO := hide_ (hO.out.extend hx); clear hx)
          | fail) <;> (try simp only [Act.put, List.setIfInBounds_toArray, List.set_cons_zero, List.set_cons_succ]))
        go_ret
        exact Keep.intro ⟨rfl, hO.out.ext⟩

set_option maxRecDepth 100000 in
theorem netFull_lifted (os : Os) (started : os.Started) (H : Type) (enc : TypeId × Value → H) :
    ReturnsInHanded {} Try.checked os 6 .any (Rows.netFullSpec.pre6 enc Try.prog Try.f6 Rows.netFullRow.domain false) (Rows.netFullSpec.post enc Try.prog Try.f6 false true false false) := by
  refine law_lifted (s := Rows.netFullSpec) (conds := Rows.netFullRow.domain) Try.func6 (by kernel_rfl) rfl (fun H ds h => by
      rw [show Try.f6.params.size = 2 from rfl] at h
      match ds, h with
      | [d0, d1], _ => rfl) rfl rfl (by decide +kernel) os started H enc
    (ChangeSpec.witness6 (enc := enc) (C := Try.checked) false ⟨#[], #[.int .i64 0, .int .i64 0], []⟩ 8 (by kernel_rfl) (by kernel_rfl) (by kernel_rfl) (by kernel_rfl)) ?_
  intro W base args ds p hval hA hsz _
  have hp : Try.f6.params.toList = [3, 3] := rfl
  rw [hp] at hA hsz
  obtain ⟨v0, v1, d0, d1, p0, p1, rfl, rfl, rfl, h0, h1⟩ := trodAll_two hA
  obtain ⟨a0, rfl, b0, c0⟩ := arg_int (hval 0 3 v0 rfl rfl) h0
  obtain ⟨a1, rfl, b1, c1⟩ := arg_int (hval 1 3 v1 rfl rfl) h1
  exact netFull_law a0 a1 W

theorem netFull_holds : Rows.NetFullSaid :=
  OpenClaim.holds_of_wide 6 Try.f6 rfl rfl rfl rfl rfl rfl rfl ⟨rfl, rfl, rfl, rfl, rfl⟩ rfl rfl rfl rfl rfl (by kernel_rfl) Try.func6 (by kernel_rfl)
    (of_decide_eq_true (by kernel_rfl)) (by unfold Func.isWrapper; first | (rw [if_pos (by decide +kernel)]; kernel_rfl) | (rw [if_neg (by decide +kernel)]; exact ⟨rfl, rfl⟩))
    (fun os started H enc _ => netFull_lifted os started H enc)
#print axioms netFull_holds

end Go.Proofs.Ytkkbpmkeemfppaa
