/- The statement StakeGrows: a set with more in it has no less; if the lesser is most, or some, so is the greater; if the greater is few, so is the lesser. No condition. -/
import Derived.Test.YthggokfnmpplmaaSAlive
namespace Go.Proofs.Ythggokfnmpplmaa
open Go.RowKit Go.ChangeShapes Go.WideShapes Go.ChangeAt

theorem i64_app {a b : List Int} (ha : I64 a) (hb : I64 b) : I64 (a ++ b) := fun x hx => (List.mem_append.1 hx).elim (ha x) (hb x)
theorem most_more {t : List Int} (h : StOk t) (a b : List Int) : most t a = false ∨ (most t a = true ∧ most t (a ++ b) = true) := by
  have h1 := sum_more h a b
  unfold most
  by_cases h2 : 2 * totS t < 3 * sumS t a
  · exact .inr ⟨decide_eq_true h2, decide_eq_true (by omega)⟩
  · exact .inl (decide_eq_false h2)
theorem some_more {t : List Int} (h : StOk t) (a b : List Int) : some3 t a = false ∨ (some3 t a = true ∧ some3 t (a ++ b) = true) := by
  have h1 := sum_more h a b
  unfold some3
  by_cases h2 : totS t < 3 * sumS t a
  · exact .inr ⟨decide_eq_true h2, decide_eq_true (by omega)⟩
  · exact .inl (decide_eq_false h2)
theorem few_less {t : List Int} (h : StOk t) (a b : List Int) : few t (a ++ b) = false ∨ (few t (a ++ b) = true ∧ few t a = true) := by
  have h1 := sum_more h a b
  unfold few
  by_cases h2 : 3 * sumS t (a ++ b) < totS t
  · exact .inr ⟨decide_eq_true h2, decide_eq_true (by omega)⟩
  · exact .inl (decide_eq_false h2)

set_option maxRecDepth 100000 in
set_option maxHeartbeats 3200000 in
theorem stakeGrows_ok (v u x : Value) (t who more : List Int) (W : World) (ht : StOk t) (h : Ints W v t) (hu : Ints W u who) (hx : Ints W x more) (hI : I64 who) (hJ : I64 more) (hl : who.length ≤ 1000) (hl2 : more.length ≤ 1000) :
    Calls Try.prog 8 #[v, u, x] W fun e w' => e = .returned (.bool true) ∧ Ext W w' := by
  refine calls_keep ?_
  have e0 := hide_ (show chk t = 0 from if_pos ht)
  have t0 : (decide ((1000 : Int) < (who.length : Int))) = false := by simp; omega
  have t1 : (decide ((1000 : Int) < (more.length : Int))) = false := by simp; omega
  have AH := hide_ (show Asked W v u t who from ⟨ht, h, hu, hI, by omega⟩)
  have HJ := hide_ (i64_app hI hJ)
  have hal := hide_ (show (who ++ more).length ≤ 2000 from by simp; omega)
  have Hl := hide_ hl
  have Hl2 := hide_ hl2
  obtain ⟨s0, hs0⟩ : ∃ s, s = sumS t who := ⟨_, rfl⟩
  obtain ⟨s1, hs1⟩ : ∃ s, s = sumS t (who ++ more) := ⟨_, rfl⟩
  obtain ⟨z, hz⟩ : ∃ z, z = totS t := ⟨_, rfl⟩
  have t2 : (decide (s1 < s0)) = false := by
    have := sum_more ht who more
    rw [← hs0, ← hs1] at this
    exact decide_eq_false (by omega)
  have t3 : (decide (z < s1)) = false := by
    have := sum_le_tot ht (who ++ more)
    rw [← hs1, ← hz] at this
    exact decide_eq_false (by omega)
  have S0 := hide_ hs0
  have S1 := hide_ hs1
  have Z := hide_ hz
  have hm := most_more ht who more
  have hn := some_more ht who more
  have hf := few_less ht who more
  have Ht := hide_ ht
  clear hs0 hs1 hz hl hl2 ht hI hJ
  rcases hm with hm | ⟨hm, hm2⟩ <;> rcases hn with hn | ⟨hn, hn2⟩ <;> rcases hf with hf | ⟨hf, hf2⟩
  all_goals
    have M := hide_ hm
    have N := hide_ hn
    have F := hide_ hf
    try have M2 := hide_ hm2
    try have N2 := hide_ hn2
    try have F2 := hide_ hf2
    clear hm hn hf
    try clear hm2
    try clear hn2
    try clear hf2
    go_enter Try.func8, Try.ntmps8
    go_wp2_with (first
      | (go_at_call 9; refine (alive_any _).mono ?_; rintro e w1 ⟨rfl, hx1⟩; have k1 := h.ext hx1)
      | (go_at_call 11; refine (Check_any v t _ k1).mono ?_; rintro e w0 ⟨rfl, rfl⟩; rw [e0.out])
      | (refine w_yes _ _ _ rfl rfl rfl ?_; refine i_len (.tmp 14) rfl rfl (v := u) rfl (hu.ext hx1) ?_)
      | (refine w_yes _ _ _ rfl rfl rfl ?_; refine i_len (.tmp 19) rfl rfl (v := x) rfl (hx.ext hx1) ?_)
      | (refine w_new Try.elI (o := ⟨some 23, _, _, _, _, _⟩) (i64s []) rfl rfl rfl (i64s_cells _) rfl (by omega) ?_; intro v2 w2 hx2 ho2; have o2 : OwnI _ w2 v2 [] := ho2; have U2 := (hu.ext hx1).ext hx2; clear ho2)
      | (at_builtin; refine appi (.tmp 23) (.tmp 24) rfl rfl rfl rfl o2 U2 (by have := Hl.out; simp; omega) hx2.size ?_; intro v3 w3 ho3 hb3 hg3 hl3; have X3 := hx2.trans' hb3; have M3 := (hx.ext hx1).ext X3; clear o2 U2 hb3 hg3 hl3)
      | (at_builtin; refine appi (.tmp 25) (.tmp 26) rfl rfl rfl rfl ho3 M3 (by have := Hl.out; have := Hl2.out; simp; omega) X3.size ?_; intro v4 w4 ho4 hb4 hg4 hl4; have X := hx1.trans (X3.trans' hb4); have o4 : OwnI _ w4 v4 (who ++ more) := ho4; have AA : Asked w4 v v4 t (who ++ more) := ⟨Ht.out, h.ext X, o4.ints, HJ.out, by have := hal.out; omega⟩; have AW := AH.out.ext X; clear ho3 ho4 o4 hb4 hg4 hl4 X3 hx2)
      | (go_at_call 14; ((with_reducible refine (Sum_of AA).mono ?_); rintro e w5 ⟨rfl, hx5⟩; rw [← S1.out]; replace AA := AA.ext hx5; replace AW := AW.ext hx5; replace X := X.trans hx5; clear hx5))
      | (go_at_call 14; ((with_reducible refine (Sum_of AW).mono ?_); rintro e w5 ⟨rfl, hx5⟩; rw [← S0.out]; replace AA := AA.ext hx5; replace AW := AW.ext hx5; replace X := X.trans hx5; clear hx5))
      | (go_at_call 10; ((with_reducible refine (Total_any v t _ Ht.out AW.st).mono ?_); rintro e w0 ⟨rfl, rfl⟩; rw [← Z.out]))
      | (go_at_call 15; ((with_reducible refine (Most_of AW).mono ?_); rintro e w5 ⟨rfl, hx5⟩; rw [M.out]; replace AA := AA.ext hx5; replace AW := AW.ext hx5; replace X := X.trans hx5; clear hx5))
      | (go_at_call 15; ((with_reducible refine (Most_of AA).mono ?_); rintro e w5 ⟨rfl, hx5⟩; rw [M2.out]; replace AA := AA.ext hx5; replace AW := AW.ext hx5; replace X := X.trans hx5; clear hx5))
      | (go_at_call 17; ((with_reducible refine (Some_of AW).mono ?_); rintro e w5 ⟨rfl, hx5⟩; rw [N.out]; replace AA := AA.ext hx5; replace AW := AW.ext hx5; replace X := X.trans hx5; clear hx5))
      | (go_at_call 17; ((with_reducible refine (Some_of AA).mono ?_); rintro e w5 ⟨rfl, hx5⟩; rw [N2.out]; replace AA := AA.ext hx5; replace AW := AW.ext hx5; replace X := X.trans hx5; clear hx5))
      | (go_at_call 19; ((with_reducible refine (Few_of AA).mono ?_); rintro e w5 ⟨rfl, hx5⟩; rw [F.out]; replace AA := AA.ext hx5; replace AW := AW.ext hx5; replace X := X.trans hx5; clear hx5))
      | (go_at_call 19; ((with_reducible refine (Few_of AW).mono ?_); rintro e w5 ⟨rfl, hx5⟩; rw [F2.out]; replace AA := AA.ext hx5; replace AW := AW.ext hx5; replace X := X.trans hx5; clear hx5)))
    go_ret
    exact Keep.intro ⟨rfl, X⟩

set_option maxRecDepth 100000 in
set_option maxHeartbeats 1600000 in
theorem stakeGrows_law (v u x : Value) (t who more : List Int) (W : World) (h : Ints W v t) (hu : Ints W u who) (hx : Ints W x more) (hI : I64 who) (hJ : I64 more) :
    Calls Try.prog 8 #[v, u, x] W fun e w' => e = .returned (.bool true) ∧ Ext W w' := by
  by_cases ht : StOk t
  · by_cases hbig : 1000 < who.length
    · refine calls_keep ?_
      have e0 := hide_ (show chk t = 0 from if_pos ht)
      have t0 : (decide ((1000 : Int) < (who.length : Int))) = true := by simp; omega
      clear hI hJ hbig ht
      go_enter Try.func8, Try.ntmps8
      go_wp2_with (first
        | (go_at_call 9; refine (alive_any _).mono ?_; rintro e w1 ⟨rfl, hx1⟩; have k1 := h.ext hx1)
        | (go_at_call 11; refine (Check_any v t _ k1).mono ?_; rintro e w0 ⟨rfl, rfl⟩; rw [e0.out])
        | (refine w_yes _ _ _ rfl rfl rfl ?_; refine i_len (.tmp 14) rfl rfl (v := u) rfl (hu.ext hx1) ?_))
      go_ret
      exact Keep.intro ⟨rfl, hx1⟩
    · by_cases hbig2 : 1000 < more.length
      · refine calls_keep ?_
        have e0 := hide_ (show chk t = 0 from if_pos ht)
        have t0 : (decide ((1000 : Int) < (who.length : Int))) = false := by simp; omega
        have t1 : (decide ((1000 : Int) < (more.length : Int))) = true := by simp; omega
        clear hI hJ hbig hbig2 ht
        go_enter Try.func8, Try.ntmps8
        go_wp2_with (first
          | (go_at_call 9; refine (alive_any _).mono ?_; rintro e w1 ⟨rfl, hx1⟩; have k1 := h.ext hx1)
          | (go_at_call 11; refine (Check_any v t _ k1).mono ?_; rintro e w0 ⟨rfl, rfl⟩; rw [e0.out])
          | (refine w_yes _ _ _ rfl rfl rfl ?_; refine i_len (.tmp 14) rfl rfl (v := u) rfl (hu.ext hx1) ?_)
          | (refine w_yes _ _ _ rfl rfl rfl ?_; refine i_len (.tmp 19) rfl rfl (v := x) rfl (hx.ext hx1) ?_))
        go_ret
        exact Keep.intro ⟨rfl, hx1⟩
      · exact stakeGrows_ok v u x t who more W ht h hu hx hI hJ (by omega) (by omega)
  · refine calls_keep ?_
    have e0 := hide_ (show chk t = 31 from if_neg ht)
    clear hI hJ ht
    go_enter Try.func8, Try.ntmps8
    go_wp2_with (first
      | (go_at_call 9; refine (alive_any _).mono ?_; rintro e w1 ⟨rfl, hx1⟩; have k1 := h.ext hx1)
      | (go_at_call 11; refine (Check_any v t _ k1).mono ?_; rintro e w0 ⟨rfl, rfl⟩; rw [e0.out]))
    go_ret
    exact Keep.intro ⟨rfl, hx1⟩

set_option maxRecDepth 100000 in
theorem stakeGrows_lifted (os : Os) (started : os.Started) (H : Type) (enc : TypeId × Value → H) :
    ReturnsInHanded {} Try.checked os 8 .any (Rows.stakeGrowsSpec.pre6 enc Try.prog Try.f8 Rows.stakeGrowsRow.domain false) (Rows.stakeGrowsSpec.post enc Try.prog Try.f8 false true false false) := by
  refine law_lifted (s := Rows.stakeGrowsSpec) (conds := Rows.stakeGrowsRow.domain) Try.func8 (by kernel_rfl) rfl (fun H ds h => by
      rw [show Try.f8.params.size = 3 from rfl] at h
      match ds, h with
      | [d0, d1, d2], _ => rfl) rfl rfl (by decide +kernel) os started H enc
    (ChangeSpec.witness6 (enc := enc) (C := Try.checked) false ⟨#[], #[.slice none 0 0, .slice none 0 0, .slice none 0 0], []⟩ 8 (by kernel_rfl) (by kernel_rfl) (by kernel_rfl) (by kernel_rfl)) ?_
  intro W base args ds p hval hA hsz _
  have hp : Try.f8.params.toList = [24, 24, 24] := rfl
  rw [hp] at hA hsz
  obtain ⟨v0, v1, v2, d0, d1, d2, p0, p1, p2, rfl, rfl, rfl, h0, h1, h2⟩ := trodAll_three hA
  obtain ⟨l0, a0, b0, c0⟩ := arg_ints hsz (j := 0) rfl rfl (hval 0 24 v0 rfl rfl) h0
  obtain ⟨l1, a1, b1, c1⟩ := arg_ints hsz (j := 1) rfl rfl (hval 1 24 v1 rfl rfl) h1
  obtain ⟨l2, a2, b2, c2⟩ := arg_ints hsz (j := 2) rfl rfl (hval 2 24 v2 rfl rfl) h2
  exact stakeGrows_law v0 v1 v2 l0 l1 l2 W a0 a1 a2 b1 b2

theorem stakeGrows_holds : Rows.StakeGrowsSaid :=
  OpenClaim.holds_of_wide 8 Try.f8 rfl rfl rfl rfl rfl rfl rfl ⟨rfl, rfl, rfl, rfl, rfl⟩ rfl rfl rfl rfl rfl (by kernel_rfl) Try.func8 (by kernel_rfl)
    (of_decide_eq_true (by kernel_rfl)) (by unfold Func.isWrapper; first | (rw [if_pos (by decide +kernel)]; kernel_rfl) | (rw [if_neg (by decide +kernel)]; exact ⟨rfl, rfl⟩))
    (fun os started H enc _ => stakeGrows_lifted os started H enc)
#print axioms stakeGrows_holds

end Go.Proofs.Ythggokfnmpplmaa
