/- The chapter's example holds: stakeAlive answers true; so the statement StakeNames. No condition. -/
import Derived.Test.YthggokfnmpplmaaStkRef
import Derived.Test.YthggokfnmpplmaaArgI
namespace Go.Proofs.Ythggokfnmpplmaa
open Go.RowKit Go.ChangeShapes Go.WideShapes Go.ChangeAt

theorem i64s_cells (l : List Int) : ∀ u ∈ i64s l, u.cells = #[u] := by
  intro u hu; simp only [i64s, List.mem_map] at hu; obtain ⟨n, _, rfl⟩ := hu; rfl
theorem asked_lit {w : World} {B1 B2 : Nat} {v u : Value} {t who : List Int} (h1 : OwnI B1 w v t) (h2 : OwnI B2 w u who) (ht : StOk t) (hI : I64 who) (hl : who.length * 8 ≤ 140737488351232) : Asked w v u t who :=
  ⟨ht, h1.ints, h2.ints, hI, hl⟩

set_option maxRecDepth 100000 in
set_option maxHeartbeats 1600000 in
theorem alive_any (w : World) : Calls Try.prog 9 #[] w fun e w' => e = .returned (.bool true) ∧ Ext w w' := by
  refine calls_keep ?_
  have ok := hide_ (show StOk [1, 1, 1, 1] from by decide)
  have e0 := hide_ (show chk [1, 1, 1, 1] = 0 from by decide)
  have e1 := hide_ (show most [1, 1, 1, 1] [0, 1, 3] = true from by decide)
  have e2 := hide_ (show some3 [1, 1, 1, 1] [1, 2] = true from by decide)
  have e3 := hide_ (show few [1, 1, 1, 1] [2] = true from by decide)
  have e4 := hide_ (show most [1, 1, 1, 1] [1, 2] = false from by decide)
  have e5 := hide_ (show few [1, 1, 1, 1] [1, 2] = false from by decide)
  have e6 := hide_ (show chk [] = 31 from by decide)
  have i1 := hide_ (show I64 [0, 1, 3] from by intro x hx; simp at hx; omega)
  have i2 := hide_ (show I64 [1, 2] from by intro x hx; simp at hx; omega)
  have i3 := hide_ (show I64 [2] from by intro x hx; simp at hx; omega)
  go_enter Try.func9, Try.ntmps9
  go_wp2_with (first
    | (refine w_new Try.elI (o := ⟨some 2, _, _, _, _, _⟩) (i64s [1, 1, 1, 1]) rfl rfl rfl (i64s_cells _) rfl (by omega) ?_; intro v1 w1 hx1 ho1; have K1 : Ints w1 v1 [1, 1, 1, 1] := OwnI.ints ho1)
    | (go_at_call 11; ((with_reducible refine (Check_any v1 _ _ K1).mono ?_); rintro e w0 ⟨rfl, rfl⟩; rw [e0.out]))
    | (refine w_yes _ _ _ rfl rfl rfl ?_; refine w_new Try.elI (o := ⟨some 8, _, _, _, _, _⟩) (i64s [0, 1, 3]) rfl rfl rfl (i64s_cells _) rfl (by omega) ?_; intro v2 w2 hx2 ho2; have A2 := asked_lit (OwnI.ext ho1 hx2) ho2 ok.out i1.out (by simp))
    | (go_at_call 15; ((with_reducible refine (Most_of A2).mono ?_); rintro e w3 ⟨rfl, hx3⟩; rw [e1.out]; have H1 := (OwnI.ext ho1 hx2).ext hx3))
    | (refine w_yes _ _ _ rfl rfl rfl ?_; refine w_new Try.elI (o := ⟨some 13, _, _, _, _, _⟩) (i64s [1, 2]) rfl rfl rfl (i64s_cells _) rfl (by omega) ?_; intro v4 w4 hx4 ho4; have A4 := asked_lit (H1.ext hx4) ho4 ok.out i2.out (by simp))
    | (go_at_call 17; ((with_reducible refine (Some_of A4).mono ?_); rintro e w5 ⟨rfl, hx5⟩; rw [e2.out]; have H2 := (H1.ext hx4).ext hx5))
    | (refine w_yes _ _ _ rfl rfl rfl ?_; refine w_new Try.elI (o := ⟨some 18, _, _, _, _, _⟩) (i64s [2]) rfl rfl rfl (i64s_cells _) rfl (by omega) ?_; intro v6 w6 hx6 ho6; have A6 := asked_lit (H2.ext hx6) ho6 ok.out i3.out (by simp))
    | (go_at_call 19; ((with_reducible refine (Few_of A6).mono ?_); rintro e w7 ⟨rfl, hx7⟩; rw [e3.out]; have H3 := (H2.ext hx6).ext hx7))
    | (refine w_yes _ _ _ rfl rfl rfl ?_; refine w_new Try.elI (o := ⟨some 23, _, _, _, _, _⟩) (i64s [1, 2]) rfl rfl rfl (i64s_cells _) rfl (by omega) ?_; intro v8 w8 hx8 ho8; have A8 := asked_lit (H3.ext hx8) ho8 ok.out i2.out (by simp))
    | (go_at_call 15; ((with_reducible refine (Most_of A8).mono ?_); rintro e w9 ⟨rfl, hx9⟩; rw [e4.out]; have H4 := (H3.ext hx8).ext hx9))
    | (refine w_yes _ _ _ rfl rfl rfl ?_; refine w_new Try.elI (o := ⟨some 29, _, _, _, _, _⟩) (i64s [1, 2]) rfl rfl rfl (i64s_cells _) rfl (by omega) ?_; intro v10 w10 hx10 ho10; have A10 := asked_lit (H4.ext hx10) ho10 ok.out i2.out (by simp))
    | (go_at_call 19; ((with_reducible refine (Few_of A10).mono ?_); rintro e w11 ⟨rfl, hx11⟩; rw [e5.out]))
    | (go_at_call 11; ((with_reducible refine (Check_any (.slice none 0 0) [] _ (Ints.nil _)).mono ?_); rintro e w12 ⟨rfl, rfl⟩; rw [e6.out])))
  go_ret
  exact Keep.intro ⟨rfl, ((((((((((hx1.trans hx2).trans hx3).trans hx4).trans hx5).trans hx6).trans hx7).trans hx8).trans hx9).trans hx10).trans hx11)⟩

set_option maxRecDepth 100000 in
theorem stakeNames_any (w : World) : Calls Try.prog 3 #[] w fun e w' => e = .returned (.bool true) ∧ Ext w w' := by
  refine calls_keep ?_
  have ok := hide_ (show StOk [2, 3] from by decide)
  have e0 := hide_ (show totS [2, 3] = 5 from by decide)
  go_enter Try.func3, Try.ntmps3
  go_wp2_with (first
    | (go_at_call 9; refine (alive_any _).mono ?_; rintro e w1 ⟨rfl, hx1⟩)
    | (refine w_yes _ _ _ rfl rfl rfl ?_; refine w_new Try.elI (o := ⟨some 9, _, _, _, _, _⟩) (i64s [2, 3]) rfl rfl rfl (i64s_cells _) rfl (by omega) ?_; intro v2 w2 hx2 ho2)
    | (go_at_call 10; refine (Total_any v2 _ _ ok.out (OwnI.ints ho2)).mono ?_; rintro e w3 ⟨rfl, rfl⟩; rw [e0.out]))
  go_ret
  exact Keep.intro ⟨rfl, hx1.trans hx2⟩

set_option maxRecDepth 100000 in
theorem stakeNames_lifted (os : Os) (started : os.Started) (H : Type) (enc : TypeId × Value → H) :
    ReturnsInHanded {} Try.checked os 3 .any (Rows.stakeNamesSpec.pre6 enc Try.prog Try.f3 Rows.stakeNamesRow.domain false) (Rows.stakeNamesSpec.post enc Try.prog Try.f3 false true false false) := by
  refine law_lifted (s := Rows.stakeNamesSpec) (conds := Rows.stakeNamesRow.domain) Try.func3 (by kernel_rfl) rfl (fun H ds h => by
      rw [show Try.f3.params.size = 0 from rfl] at h
      obtain rfl : ds = [] := List.eq_nil_of_length_eq_zero h
      rfl) rfl rfl (by decide +kernel) os started H enc
    (ChangeSpec.witness6 (enc := enc) (C := Try.checked) false ⟨#[], #[], []⟩ 8 (by kernel_rfl) (by kernel_rfl) (by kernel_rfl) (by kernel_rfl)) ?_
  intro W base args ds p hval hA hsz _
  obtain rfl : args = #[] := by cases args with | mk l => cases l with | nil => rfl | cons v vs => cases ds <;> exact hA.elim
  exact stakeNames_any W

theorem stakeNames_holds : Rows.StakeNamesSaid :=
  OpenClaim.holds_of_wide 3 Try.f3 rfl rfl rfl rfl rfl rfl rfl ⟨rfl, rfl, rfl, rfl, rfl⟩ rfl rfl rfl rfl rfl (by kernel_rfl) Try.func3 (by kernel_rfl)
    (of_decide_eq_true (by kernel_rfl)) (by unfold Func.isWrapper; first | (rw [if_pos (by decide +kernel)]; kernel_rfl) | (rw [if_neg (by decide +kernel)]; exact ⟨rfl, rfl⟩))
    (fun os started H enc _ => stakeNames_lifted os started H enc)
#print axioms stakeNames_holds

end Go.Proofs.Ythggokfnmpplmaa
