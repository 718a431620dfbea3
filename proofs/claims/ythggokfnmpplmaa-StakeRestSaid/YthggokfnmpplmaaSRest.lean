/- The statement StakeRest: what a set and all others have is all; if a set is few, the others are most, and if not, not. No condition. -/
import Derived.Test.YthggokfnmpplmaaSMeets
namespace Go.Proofs.Ythggokfnmpplmaa
open Go.RowKit Go.ChangeShapes Go.WideShapes Go.ChangeAt

set_option maxRecDepth 100000 in
set_option maxHeartbeats 3200000 in
theorem stakeRest_ok (v u : Value) (t a : List Int) (W : World) (ht : StOk t) (h : Ints W v t) (hu : Ints W u a) (hI : I64 a) (hl : a.length * 8 ≤ 140737488351232) :
    Calls Try.prog 6 #[v, u] W fun e w' => e = .returned (.bool true) ∧ Ext W w' := by
  refine calls_keep ?_
  have e0 := hide_ (show chk t = 0 from if_pos ht)
  have AA := hide_ (show Asked W v u t a from ⟨ht, h, hu, hI, hl⟩)
  obtain ⟨p, hp⟩ : ∃ p : Nat → Bool, p = fun i => !inn a i := ⟨_, rfl⟩
  have hr := rest_sum t a
  have hf := rest_few t a
  rw [← hp] at hr hf
  have hb1 := sumS_bd ht a
  have hb2 := sumS_bd ht (picks p t.length)
  obtain ⟨s1, hs1⟩ : ∃ s, s = sumS t a := ⟨_, rfl⟩
  obtain ⟨s2, hs2⟩ : ∃ s, s = sumS t (picks p t.length) := ⟨_, rfl⟩
  obtain ⟨z, hz⟩ : ∃ s, s = totS t := ⟨_, rfl⟩
  rw [← hs1, ← hs2, ← hz] at hr
  rw [← hs1] at hb1
  rw [← hs2] at hb2
  have HM := hide_ hf
  have S1 := hide_ hs1
  have S2 := hide_ hs2
  have Z := hide_ hz
  have hpk := hide_ (show ∀ k, p k = (!inn a k) from fun k => by rw [hp])
  have h7 := ht.2.1
  have Ht := hide_ ht
  -- most so some; some so not few
  have hmsf := hide_ (show (most t a = true → some3 t a = true) ∧ (some3 t a = true → few t a = false) from ⟨most_some ht a, some_few t a⟩)
  obtain ⟨Hr⟩ : Nonempty (Hid (s1 + s2 = z)) := ⟨hide_ hr⟩
  clear hf hs1 hs2 hz hp hI ht hr
  go_enter Try.func6, Try.ntmps6
  go_wp2_with (first
    | (go_at_call 9; refine (alive_any _).mono ?_; rintro e w1 ⟨rfl, hx1⟩; have k1 := h.ext hx1; have X := hx1)
    | (go_at_call 11; refine (Check_any v t _ k1).mono ?_; rintro e w0 ⟨rfl, rfl⟩; rw [e0.out])
    | (refine w_new Try.elI (o := ⟨some 15, _, _, _, _, _⟩) (i64s []) rfl rfl rfl (i64s_cells _) rfl (by omega) ?_; intro v2 w2 hx2 ho2; have o2 : OwnI _ w2 v2 [] := ho2; have X2 := X.trans hx2; have O2 := hide_ (o2.mono X.size); clear ho2 o2)
    | (refine i_len (.tmp 16) rfl rfl (v := v) rfl (h.ext X2) ?_))
  go_loopw [5, 18] (fun out i wr => ∃ (k : Nat), i = .int .i64 k ∧ k ≤ t.length ∧ Hid (OwnI W.heap.size wr out (picks p k)) ∧ Ext W wr)
    (fun _ i _ => t.length - (intOf i).toNat)
  case atStart => exact ⟨0, rfl, Nat.zero_le _, O2, X2⟩
  case round =>
    obtain ⟨k, rfl, hk, ho, hX⟩ := hrel
    by_cases hlt : k < t.length
    · have K1 := hide_ (hu.ext hX)
      go_wp2_with (first
        | (refine i_len (.tmp 21) rfl rfl (v := u) rfl K1.out ?_))
      go_loopw [7, 23] (fun y j wr2 => ∃ (m : Nat), j = .int .i64 m ∧ m ≤ a.length ∧ y = .bool (inn (a.take m) k) ∧ wr2 = wr)
        (fun _ j _ => a.length - (intOf j).toNat)
      case atStart => exact ⟨0, rfl, Nat.zero_le _, rfl, rfl⟩
      case round =>
        obtain ⟨m, rfl, hm, rfl, rfl⟩ := hrel
        by_cases hml : m < a.length
        · have Hin := hide_ (inn_step a k hml)
          cases hb : inn (a.take m) k
          all_goals
            rw [hb] at Hin
            clear hb
            go_wp2_with (first
              | (refine i_idx (.tmp 21) (.tmp 23) m rfl rfl (v := u) rfl K1.out rfl hml ?_; intro ad had))
            go_roundw
            case rel => exact ⟨m + 1, by go_num, by omega, by rw [Hin.out]; rfl, by trivial⟩
            case measure => simp [intOf]; omega
        · obtain rfl : m = a.length := by omega
          rw [List.take_length]
          have hpk1 := hpk.out k
          cases ha : inn a k
          · rw [ha] at hpk1
            have Hp := hide_ (picks_yes hpk1)
            have Hlen := hide_ (picks_len p k)
            clear ha hpk1
            go_wp2_with (first
              | (refine w_new Try.elI (o := ⟨some 38, _, _, _, _, _⟩) (i64s [(k : Int)]) rfl rfl rfl (i64s_cells _) rfl (by omega) ?_; intro v3 w3 hx3 ho3; have o3 : OwnI _ w3 v3 [(k : Int)] := ho3; have i3 := o3.ints; have O4 := OwnI.ext ho.out hx3; have X3 := hX.trans hx3; clear ho3 o3)
              | (at_builtin; refine appi (.tmp 36) (.tmp 38) rfl rfl rfl rfl O4 i3 (by have := Hlen.out; simp; omega) X3.size ?_; intro v4 w4 ho4 hb4 hg4 hl4))
            go_roundw
            case rel => exact ⟨k + 1, by go_num, by omega, by rw [Hp.out]; exact ho4, X3.trans' hb4⟩
            case measure => simp [intOf]; omega
          · rw [ha] at hpk1
            have Hp := hide_ (picks_no hpk1)
            clear ha hpk1
            go_wp2
            go_roundw
            case rel => exact ⟨k + 1, by go_num, by omega, by rw [Hp.out]; exact ho, hX⟩
            case measure => simp [intOf]; omega
    · obtain rfl : k = t.length := by omega
      have AO := hide_ (show Asked wr v u5 t (picks p t.length) from ⟨Ht.out, h.ext hX, ho.out.ints, picks_i64 p h7, by have := picks_len p t.length; omega⟩)
      have A2 := AA.out.ext hX
      have X := hX
      have R2 := AO.out
      have h4 : (most t a = true ∧ some3 t a = true ∧ few t a = false) ∨ (most t a = false ∧ some3 t a = true ∧ few t a = false) ∨ (most t a = false ∧ some3 t a = false ∧ few t a = true) ∨ (most t a = false ∧ some3 t a = false ∧ few t a = false) := by
        have h5 := hmsf.out
        cases h6 : most t a <;> cases h7 : some3 t a <;> cases h8 : few t a <;> simp [h6, h7, h8] at h5 ⊢
      rcases h4 with ⟨hm, hn, hf⟩ | ⟨hm, hn, hf⟩ | ⟨hm, hn, hf⟩ | ⟨hm, hn, hf⟩
      all_goals
        have M := hide_ hm
        have N := hide_ hn
        have F := hide_ hf
        clear hm hn hf AO
        go_wp2_with (first
          | (go_at_call 14; ((with_reducible refine (Sum_of A2).mono ?_); rintro e w5 ⟨rfl, hx5⟩; rw [← S1.out]; replace A2 := A2.ext hx5; replace R2 := R2.ext hx5; replace X := X.trans hx5; clear hx5))
          | (go_at_call 14; ((with_reducible refine (Sum_of R2).mono ?_); rintro e w5 ⟨rfl, hx5⟩; rw [← S2.out]; replace A2 := A2.ext hx5; replace R2 := R2.ext hx5; replace X := X.trans hx5; clear hx5))
          | (go_at_call 10; ((with_reducible refine (Total_any v t _ Ht.out A2.st).mono ?_); rintro e w0 ⟨rfl, rfl⟩; rw [← Z.out, ← Hr.out]))
          | (go_at_call 15; ((with_reducible refine (Most_of A2).mono ?_); rintro e w5 ⟨rfl, hx5⟩; rw [M.out]; replace A2 := A2.ext hx5; replace R2 := R2.ext hx5; replace X := X.trans hx5; clear hx5))
          | (go_at_call 15; ((with_reducible refine (Most_of R2).mono ?_); rintro e w5 ⟨rfl, hx5⟩; rw [HM.out, F.out]; replace A2 := A2.ext hx5; replace R2 := R2.ext hx5; replace X := X.trans hx5; clear hx5))
          | (go_at_call 17; ((with_reducible refine (Some_of A2).mono ?_); rintro e w5 ⟨rfl, hx5⟩; rw [N.out]; replace A2 := A2.ext hx5; replace R2 := R2.ext hx5; replace X := X.trans hx5; clear hx5))
          | (go_at_call 19; ((with_reducible refine (Few_of A2).mono ?_); rintro e w5 ⟨rfl, hx5⟩; rw [F.out]; replace A2 := A2.ext hx5; replace R2 := R2.ext hx5; replace X := X.trans hx5; clear hx5)))
        go_ret
        exact Keep.intro ⟨rfl, X⟩
set_option maxRecDepth 100000 in
set_option maxHeartbeats 1600000 in
theorem stakeRest_law (v u : Value) (t a : List Int) (W : World) (h : Ints W v t) (hu : Ints W u a) (hI : I64 a) (hl : a.length * 8 ≤ 140737488351232) :
    Calls Try.prog 6 #[v, u] W fun e w' => e = .returned (.bool true) ∧ Ext W w' := by
  by_cases ht : StOk t
  · exact stakeRest_ok v u t a W ht h hu hI hl
  · refine calls_keep ?_
    have e0 := hide_ (show chk t = 31 from if_neg ht)
    clear hI ht
    go_enter Try.func6, Try.ntmps6
    go_wp2_with (first
      | (go_at_call 9; refine (alive_any _).mono ?_; rintro e w1 ⟨rfl, hx1⟩; have k1 := h.ext hx1)
      | (go_at_call 11; refine (Check_any v t _ k1).mono ?_; rintro e w0 ⟨rfl, rfl⟩; rw [e0.out]))
    go_ret
    exact Keep.intro ⟨rfl, hx1⟩

set_option maxRecDepth 100000 in
theorem stakeRest_lifted (os : Os) (started : os.Started) (H : Type) (enc : TypeId × Value → H) :
    ReturnsInHanded {} Try.checked os 6 .any (Rows.stakeRestSpec.pre6 enc Try.prog Try.f6 Rows.stakeRestRow.domain false) (Rows.stakeRestSpec.post enc Try.prog Try.f6 false true false false) := by
  refine law_lifted (s := Rows.stakeRestSpec) (conds := Rows.stakeRestRow.domain) Try.func6 (by kernel_rfl) rfl (fun H ds h => by
      rw [show Try.f6.params.size = 2 from rfl] at h
      match ds, h with
      | [d0, d1], _ => rfl) rfl rfl (by decide +kernel) os started H enc
    (ChangeSpec.witness6 (enc := enc) (C := Try.checked) false ⟨#[], #[.slice none 0 0, .slice none 0 0], []⟩ 8 (by kernel_rfl) (by kernel_rfl) (by kernel_rfl) (by kernel_rfl)) ?_
  intro W base args ds p hval hA hsz _
  have hp : Try.f6.params.toList = [24, 24] := rfl
  rw [hp] at hA hsz
  obtain ⟨v0, v1, d0, d1, p0, p1, rfl, rfl, rfl, h0, h1⟩ := trodAll_two hA
  obtain ⟨l0, a0, b0, c0⟩ := arg_ints hsz (j := 0) rfl rfl (hval 0 24 v0 rfl rfl) h0
  obtain ⟨l1, a1, b1, c1⟩ := arg_ints hsz (j := 1) rfl rfl (hval 1 24 v1 rfl rfl) h1
  exact stakeRest_law v0 v1 l0 l1 W a0 a1 b1 c1

theorem stakeRest_holds : Rows.StakeRestSaid :=
  OpenClaim.holds_of_wide 6 Try.f6 rfl rfl rfl rfl rfl rfl rfl ⟨rfl, rfl, rfl, rfl, rfl⟩ rfl rfl rfl rfl rfl (by kernel_rfl) Try.func6 (by kernel_rfl)
    (of_decide_eq_true (by kernel_rfl)) (by unfold Func.isWrapper; first | (rw [if_pos (by decide +kernel)]; kernel_rfl) | (rw [if_neg (by decide +kernel)]; exact ⟨rfl, rfl⟩))
    (fun os started H enc _ => stakeRest_lifted os started H enc)
#print axioms stakeRest_holds

end Go.Proofs.Ythggokfnmpplmaa
