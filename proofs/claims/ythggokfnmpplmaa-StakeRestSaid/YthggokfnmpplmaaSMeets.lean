/- The statement StakeMeets: what is in two sets that are most is some, and not few. No condition. -/
import Derived.Test.YthggokfnmpplmaaSAlive
namespace Go.Proofs.Ythggokfnmpplmaa
open Go.RowKit Go.ChangeShapes Go.WideShapes Go.ChangeAt

theorem picks_i64 (p : Nat → Bool) {n : Nat} (hn : n ≤ 7) : I64 (picks p n) := fun x hx => by have := picks_wf p n x hx; omega
theorem picks_yes {p : Nat → Bool} {k : Nat} (h : p k = true) : picks p (k + 1) = picks p k ++ [(k : Int)] := by rw [picks_succ, if_pos h]
theorem picks_no {p : Nat → Bool} {k : Nat} (h : p k = false) : picks p (k + 1) = picks p k := by rw [picks_succ, if_neg (by rw [h]; decide), List.append_nil]

set_option maxRecDepth 100000 in
set_option maxHeartbeats 3200000 in
theorem stakeMeets_ok (v u x : Value) (t a b : List Int) (W : World) (ht : StOk t) (h : Ints W v t) (hu : Ints W u a) (hx : Ints W x b) (hI : I64 a) (hJ : I64 b) (hl : a.length * 8 ≤ 140737488351232) (hl2 : b.length * 8 ≤ 140737488351232)
    (ha : most t a = true) (hb : most t b = true) :
    Calls Try.prog 5 #[v, u, x] W fun e w' => e = .returned (.bool true) ∧ Ext W w' := by
  refine calls_keep ?_
  have e0 := hide_ (show chk t = 0 from if_pos ht)
  have AA := hide_ (show Asked W v u t a from ⟨ht, h, hu, hI, hl⟩)
  have AB := hide_ (show Asked W v x t b from ⟨ht, h, hx, hJ, hl2⟩)
  obtain ⟨p, hp⟩ : ∃ p : Nat → Bool, p = fun i => inn a i && inn b i := ⟨_, rfl⟩
  have hm := two_meet ht a b ha hb
  rw [← hp] at hm
  have HS := hide_ hm.1
  have HF := hide_ hm.2
  have Ma := hide_ ha
  have Mb := hide_ hb
  have hpk := hide_ (show ∀ k, p k = (inn a k && inn b k) from fun k => by rw [hp])
  have h7 := ht.2.1
  have Ht := hide_ ht
  clear hm ha hb hp hI hJ ht
  go_enter Try.func5, Try.ntmps5
  go_wp2_with (first
    | (go_at_call 9; refine (alive_any _).mono ?_; rintro e w1 ⟨rfl, hx1⟩; have k1 := h.ext hx1; have A1 := AA.out.ext hx1; have B1 := AB.out.ext hx1; have X := hx1)
    | (go_at_call 11; refine (Check_any v t _ k1).mono ?_; rintro e w0 ⟨rfl, rfl⟩; rw [e0.out])
    | (go_at_call 15; ((with_reducible refine (Most_of A1).mono ?_); rintro e w5 ⟨rfl, hx5⟩; rw [Ma.out]; replace A1 := A1.ext hx5; replace B1 := B1.ext hx5; replace X := X.trans hx5; clear hx5))
    | (go_at_call 15; ((with_reducible refine (Most_of B1).mono ?_); rintro e w6 ⟨rfl, hx5⟩; rw [Mb.out]; replace A1 := A1.ext hx5; replace B1 := B1.ext hx5; replace X := X.trans hx5; clear hx5))
    | (refine w_new Try.elI (o := ⟨some 32, _, _, _, _, _⟩) (i64s []) rfl rfl rfl (i64s_cells _) rfl (by omega) ?_; intro v2 w2 hx2 ho2; have o2 : OwnI _ w2 v2 [] := ho2; have X2 := X.trans hx2; have O2 := hide_ (o2.mono X.size); clear ho2 o2)
    | (refine i_len (.tmp 33) rfl rfl (v := v) rfl (h.ext X2) ?_))
  go_loopw [7, 35] (fun out i wr => ∃ (k : Nat), i = .int .i64 k ∧ k ≤ t.length ∧ Hid (OwnI W.heap.size wr out (picks p k)) ∧ Ext W wr)
    (fun _ i _ => t.length - (intOf i).toNat)
  case atStart => exact ⟨0, rfl, Nat.zero_le _, O2, X2⟩
  case round =>
    obtain ⟨k, rfl, hk, ho, hX⟩ := hrel
    by_cases hlt : k < t.length
    · have K1 := hide_ (hu.ext hX)
      have K2 := hide_ (hx.ext hX)
      go_wp2_with (first
        | (refine i_len (.tmp 38) rfl rfl (v := u) rfl K1.out ?_))
      go_loopw [9, 40] (fun y j wr2 => ∃ (m : Nat), j = .int .i64 m ∧ m ≤ a.length ∧ y = .bool (inn (a.take m) k) ∧ wr2 = wr)
        (fun _ j _ => a.length - (intOf j).toNat)
      case atStart => exact ⟨0, rfl, Nat.zero_le _, rfl, rfl⟩
      case round =>
        obtain ⟨m, rfl, hm, rfl, rfl⟩ := hrel
        by_cases hml : m < a.length
        · have Hin := hide_ (inn_step a k hml)
          cases hb : inn (a.take m) k
          all_goals
            rw [hb] at Hin
            clear hb
            go_wp2_with (first
              | (refine i_idx (.tmp 38) (.tmp 40) m rfl rfl (v := u) rfl K1.out rfl hml ?_; intro ad had))
            go_roundw
            case rel => exact ⟨m + 1, by go_num, by omega, by rw [Hin.out]; rfl, by trivial⟩
            case measure => simp [intOf]; omega
        · obtain rfl : m = a.length := by omega
          rw [List.take_length]
          go_wp2_with (first
            | (refine i_len (.tmp 51) rfl rfl (v := x) rfl K2.out ?_))
          go_loopw [10, 53] (fun y j wr3 => ∃ (m : Nat), j = .int .i64 m ∧ m ≤ b.length ∧ y = .bool (inn (b.take m) k) ∧ wr3 = wr)
            (fun _ j _ => b.length - (intOf j).toNat)
          case atStart => exact ⟨0, rfl, Nat.zero_le _, rfl, rfl⟩
          case round =>
            obtain ⟨m, rfl, hm, rfl, rfl⟩ := hrel
            by_cases hml : m < b.length
            · have Hin := hide_ (inn_step b k hml)
              cases hb : inn (b.take m) k
              all_goals
                rw [hb] at Hin
                clear hb
                go_wp2_with (first
                  | (refine i_idx (.tmp 51) (.tmp 53) m rfl rfl (v := x) rfl K2.out rfl hml ?_; intro ad had))
                go_roundw
                case rel => exact ⟨m + 1, by go_num, by omega, by rw [Hin.out]; rfl, by trivial⟩
                case measure => simp [intOf]; omega
            · obtain rfl : m = b.length := by omega
              rw [List.take_length]
              have hpk1 := hpk.out k
              cases ha : inn a k <;> cases hb : inn b k
              · rw [ha, hb] at hpk1
                have Hp := hide_ (picks_no hpk1)
                clear ha hb hpk1
                go_wp2
                go_roundw
                case rel => exact ⟨k + 1, by go_num, by omega, by rw [Hp.out]; exact ho, hX⟩
                case measure => simp [intOf]; omega
              · rw [ha, hb] at hpk1
                have Hp := hide_ (picks_no hpk1)
                clear ha hb hpk1
                go_wp2
                go_roundw
                case rel => exact ⟨k + 1, by go_num, by omega, by rw [Hp.out]; exact ho, hX⟩
                case measure => simp [intOf]; omega
              · rw [ha, hb] at hpk1
                have Hp := hide_ (picks_no hpk1)
                clear ha hb hpk1
                go_wp2
                go_roundw
                case rel => exact ⟨k + 1, by go_num, by omega, by rw [Hp.out]; exact ho, hX⟩
                case measure => simp [intOf]; omega
              · rw [ha, hb] at hpk1
                have Hp := hide_ (picks_yes hpk1)
                have Hlen := hide_ (picks_len p k)
                clear ha hb hpk1
                go_wp2_with (first
                  | (refine w_new Try.elI (o := ⟨some 70, _, _, _, _, _⟩) (i64s [(k : Int)]) rfl rfl rfl (i64s_cells _) rfl (by omega) ?_; intro v3 w3 hx3 ho3; have o3 : OwnI _ w3 v3 [(k : Int)] := ho3; have i3 := o3.ints; have O4 := OwnI.ext ho.out hx3; have X3 := hX.trans hx3; clear ho3 o3)
                  | (at_builtin; refine appi (.tmp 68) (.tmp 70) rfl rfl rfl rfl O4 i3 (by have := Hlen.out; simp; omega) X3.size ?_; intro v4 w4 ho4 hb4 hg4 hl4))
                go_roundw
                case rel => exact ⟨k + 1, by go_num, by omega, by rw [Hp.out]; exact ho4, X3.trans' hb4⟩
                case measure => simp [intOf]; omega
    · obtain rfl : k = t.length := by omega
      have AO := hide_ (show Asked wr v u7 t (picks p t.length) from ⟨Ht.out, h.ext hX, ho.out.ints, picks_i64 p h7, by have := picks_len p t.length; omega⟩)
      go_wp2_with (first
        | (go_at_call 17; ((with_reducible refine (Some_of AO.out).mono ?_); rintro e w5 ⟨rfl, hx5⟩; rw [HS.out]; have AO2 := AO.out.ext hx5; have X5 := hX.trans hx5))
        | (go_at_call 19; ((with_reducible refine (Few_of AO2).mono ?_); rintro e w6 ⟨rfl, hx6⟩; rw [HF.out]; have X6 := X5.trans hx6)))
      go_ret
      exact Keep.intro ⟨rfl, X6⟩
set_option maxRecDepth 100000 in
set_option maxHeartbeats 1600000 in
theorem stakeMeets_law (v u x : Value) (t a b : List Int) (W : World) (h : Ints W v t) (hu : Ints W u a) (hx : Ints W x b) (hI : I64 a) (hJ : I64 b) (hl : a.length * 8 ≤ 140737488351232) (hl2 : b.length * 8 ≤ 140737488351232) :
    Calls Try.prog 5 #[v, u, x] W fun e w' => e = .returned (.bool true) ∧ Ext W w' := by
  by_cases ht : StOk t
  · have AA := hide_ (show Asked W v u t a from ⟨ht, h, hu, hI, hl⟩)
    have AB := hide_ (show Asked W v x t b from ⟨ht, h, hx, hJ, hl2⟩)
    cases ha : most t a
    · refine calls_keep ?_
      have e0 := hide_ (show chk t = 0 from if_pos ht)
      have Ma := hide_ ha
      clear hI hJ ht ha
      go_enter Try.func5, Try.ntmps5
      go_wp2_with (first
        | (go_at_call 9; refine (alive_any _).mono ?_; rintro e w1 ⟨rfl, hx1⟩; have k1 := h.ext hx1; have A1 := AA.out.ext hx1)
        | (go_at_call 11; refine (Check_any v t _ k1).mono ?_; rintro e w0 ⟨rfl, rfl⟩; rw [e0.out])
        | (go_at_call 15; ((with_reducible refine (Most_of A1).mono ?_); rintro e w5 ⟨rfl, hx5⟩; rw [Ma.out])))
      go_ret
      exact Keep.intro ⟨rfl, hx1.trans hx5⟩
    · cases hb : most t b
      · refine calls_keep ?_
        have e0 := hide_ (show chk t = 0 from if_pos ht)
        have Ma := hide_ ha
        have Mb := hide_ hb
        clear hI hJ ht ha hb
        go_enter Try.func5, Try.ntmps5
        go_wp2_with (first
          | (go_at_call 9; refine (alive_any _).mono ?_; rintro e w1 ⟨rfl, hx1⟩; have k1 := h.ext hx1; have A1 := AA.out.ext hx1; have B1 := AB.out.ext hx1)
          | (go_at_call 11; refine (Check_any v t _ k1).mono ?_; rintro e w0 ⟨rfl, rfl⟩; rw [e0.out])
          | (go_at_call 15; ((with_reducible refine (Most_of A1).mono ?_); rintro e w5 ⟨rfl, hx5⟩; rw [Ma.out]; have B2 := B1.ext hx5))
          | (go_at_call 15; ((with_reducible refine (Most_of B2).mono ?_); rintro e w6 ⟨rfl, hx6⟩; rw [Mb.out])))
        go_ret
        exact Keep.intro ⟨rfl, (hx1.trans hx5).trans hx6⟩
      · exact stakeMeets_ok v u x t a b W ht h hu hx hI hJ hl hl2 ha hb
  · refine calls_keep ?_
    have e0 := hide_ (show chk t = 31 from if_neg ht)
    clear hI hJ ht
    go_enter Try.func5, Try.ntmps5
    go_wp2_with (first
      | (go_at_call 9; refine (alive_any _).mono ?_; rintro e w1 ⟨rfl, hx1⟩; have k1 := h.ext hx1)
      | (go_at_call 11; refine (Check_any v t _ k1).mono ?_; rintro e w0 ⟨rfl, rfl⟩; rw [e0.out]))
    go_ret
    exact Keep.intro ⟨rfl, hx1⟩

set_option maxRecDepth 100000 in
theorem stakeMeets_lifted (os : Os) (started : os.Started) (H : Type) (enc : TypeId × Value → H) :
    ReturnsInHanded {} Try.checked os 5 .any (Rows.stakeMeetsSpec.pre6 enc Try.prog Try.f5 Rows.stakeMeetsRow.domain false) (Rows.stakeMeetsSpec.post enc Try.prog Try.f5 false true false false) := by
  refine law_lifted (s := Rows.stakeMeetsSpec) (conds := Rows.stakeMeetsRow.domain) Try.func5 (by kernel_rfl) rfl (fun H ds h => by
      rw [show Try.f5.params.size = 3 from rfl] at h
      match ds, h with
      | [d0, d1, d2], _ => rfl) rfl rfl (by decide +kernel) os started H enc
    (ChangeSpec.witness6 (enc := enc) (C := Try.checked) false ⟨#[], #[.slice none 0 0, .slice none 0 0, .slice none 0 0], []⟩ 8 (by kernel_rfl) (by kernel_rfl) (by kernel_rfl) (by kernel_rfl)) ?_
  intro W base args ds p hval hA hsz _
  have hp : Try.f5.params.toList = [24, 24, 24] := rfl
  rw [hp] at hA hsz
  obtain ⟨v0, v1, v2, d0, d1, d2, p0, p1, p2, rfl, rfl, rfl, h0, h1, h2⟩ := trodAll_three hA
  obtain ⟨l0, a0, b0, c0⟩ := arg_ints hsz (j := 0) rfl rfl (hval 0 24 v0 rfl rfl) h0
  obtain ⟨l1, a1, b1, c1⟩ := arg_ints hsz (j := 1) rfl rfl (hval 1 24 v1 rfl rfl) h1
  obtain ⟨l2, a2, b2, c2⟩ := arg_ints hsz (j := 2) rfl rfl (hval 2 24 v2 rfl rfl) h2
  exact stakeMeets_law v0 v1 v2 l0 l1 l2 W a0 a1 a2 b1 b2 c1 c2

theorem stakeMeets_holds : Rows.StakeMeetsSaid :=
  OpenClaim.holds_of_wide 5 Try.f5 rfl rfl rfl rfl rfl rfl rfl ⟨rfl, rfl, rfl, rfl, rfl⟩ rfl rfl rfl rfl rfl (by kernel_rfl) Try.func5 (by kernel_rfl)
    (of_decide_eq_true (by kernel_rfl)) (by unfold Func.isWrapper; first | (rw [if_pos (by decide +kernel)]; kernel_rfl) | (rw [if_neg (by decide +kernel)]; exact ⟨rfl, rfl⟩))
    (fun os started H enc _ => stakeMeets_lifted os started H enc)
#print axioms stakeMeets_holds

end Go.Proofs.Ythggokfnmpplmaa
