/- The statement StakeSums: which stakes can be; how much any set has, and how much of all that is. No condition. -/
import Derived.Test.YthggokfnmpplmaaSAlive
namespace Go.Proofs.Ythggokfnmpplmaa
open Go.RowKit Go.ChangeShapes Go.WideShapes Go.ChangeAt

theorem int_refl_ne (n : Int) : (n != n) = false := by simp

set_option maxRecDepth 100000 in
set_option maxHeartbeats 1600000 in
theorem stakeSums_law (v u : Value) (t who : List Int) (W : World) (h : Ints W v t) (hu : Ints W u who) (hI : I64 who) (hlen : who.length * 8 ≤ 140737488351232) :
    Calls Try.prog 4 #[v, u] W fun e w' => e = .returned (.bool true) ∧ Ext W w' := by
  refine calls_keep ?_
  by_cases ht : StOk t
  · have e0 := hide_ (show chk t = 0 from if_pos ht)
    have A := hide_ (show Asked W v u t who from ⟨ht, h, hu, hI, hlen⟩)
    obtain ⟨s, hs⟩ : ∃ s, s = sumS t who := ⟨_, rfl⟩
    obtain ⟨z, hz⟩ : ∃ z, z = totS t := ⟨_, rfl⟩
    obtain ⟨b1, h1⟩ : ∃ b, b = most t who := ⟨_, rfl⟩
    obtain ⟨b2, h2⟩ : ∃ b, b = some3 t who := ⟨_, rfl⟩
    obtain ⟨b3, h3⟩ : ∃ b, b = few t who := ⟨_, rfl⟩
    have Hs := hide_ hs
    have Hz := hide_ hz
    have H1 := hide_ h1
    have H2 := hide_ h2
    have H3 := hide_ h3
    have Ht := hide_ ht
    clear hs hz h1 h2 h3 hI ht
    go_enter Try.func4, Try.ntmps4
    go_wp2_with (first
      | (go_at_call 9; refine (alive_any _).mono ?_; rintro e w1 ⟨rfl, hx1⟩; have k1 := h.ext hx1; have A1 := A.out.ext hx1)
      | (go_at_call 11; refine (Check_any v t _ k1).mono ?_; rintro e w0 ⟨rfl, rfl⟩; rw [e0.out])
      | (go_at_call 12; refine (RefCheck_any v t _ k1).mono ?_; rintro e w0 ⟨rfl, rfl⟩; rw [e0.out])
      | (go_at_call 13; refine (RefSum_of A1).mono ?_; rintro e w0 ⟨rfl, rfl⟩; rw [← Hs.out, ← Hz.out])
      | (go_at_call 14; refine (Sum_of A1).mono ?_; rintro e w2 ⟨rfl, hx2⟩; rw [← Hs.out]; have A2 := A1.ext hx2)
      | (go_at_call 10; refine (Total_any v t _ Ht.out A2.st).mono ?_; rintro e w0 ⟨rfl, rfl⟩; rw [← Hz.out])
      | (go_at_call 15; refine (Most_of A2).mono ?_; rintro e w3 ⟨rfl, hx3⟩; rw [← H1.out]; have A3 := A2.ext hx3)
      | (go_at_call 16; refine (RefMost_of A3).mono ?_; rintro e w0 ⟨rfl, rfl⟩; rw [← H1.out])
      | (go_at_call 17; refine (Some_of A3).mono ?_; rintro e w4 ⟨rfl, hx4⟩; rw [← H2.out]; have A4 := A3.ext hx4)
      | (go_at_call 18; refine (RefSome_of A4).mono ?_; rintro e w0 ⟨rfl, rfl⟩; rw [← H2.out])
      | (go_at_call 19; refine (Few_of A4).mono ?_; rintro e w5 ⟨rfl, hx5⟩; rw [← H3.out]; have A5 := A4.ext hx5)
      | (go_at_call 20; refine (RefFew_of A5).mono ?_; rintro e w0 ⟨rfl, rfl⟩; rw [← H3.out]))
    go_ret
    exact Keep.intro ⟨rfl, (((hx1.trans hx2).trans hx3).trans hx4).trans hx5⟩
  · have e0 := hide_ (show chk t = 31 from if_neg ht)
    clear hI ht
    go_enter Try.func4, Try.ntmps4
    go_wp2_with (first
      | (go_at_call 9; refine (alive_any _).mono ?_; rintro e w1 ⟨rfl, hx1⟩; have k1 := h.ext hx1)
      | (go_at_call 11; refine (Check_any v t _ k1).mono ?_; rintro e w0 ⟨rfl, rfl⟩; rw [e0.out])
      | (go_at_call 12; refine (RefCheck_any v t _ k1).mono ?_; rintro e w0 ⟨rfl, rfl⟩; rw [e0.out]))
    go_ret
    exact Keep.intro ⟨rfl, hx1⟩

set_option maxRecDepth 100000 in
theorem stakeSums_lifted (os : Os) (started : os.Started) (H : Type) (enc : TypeId × Value → H) :
    ReturnsInHanded {} Try.checked os 4 .any (Rows.stakeSumsSpec.pre6 enc Try.prog Try.f4 Rows.stakeSumsRow.domain false) (Rows.stakeSumsSpec.post enc Try.prog Try.f4 false true false false) := by
  refine law_lifted (s := Rows.stakeSumsSpec) (conds := Rows.stakeSumsRow.domain) Try.func4 (by kernel_rfl) rfl (fun H ds h => by
      rw [show Try.f4.params.size = 2 from rfl] at h
      match ds, h with
      | [d0, d1], _ => rfl) rfl rfl (by decide +kernel) os started H enc
    (ChangeSpec.witness6 (enc := enc) (C := Try.checked) false ⟨#[], #[.slice none 0 0, .slice none 0 0], []⟩ 8 (by kernel_rfl) (by kernel_rfl) (by kernel_rfl) (by kernel_rfl)) ?_
  intro W base args ds p hval hA hsz _
  have hp : Try.f4.params.toList = [24, 24] := rfl
  rw [hp] at hA hsz
  obtain ⟨v0, v1, d0, d1, p0, p1, rfl, rfl, rfl, h0, h1⟩ := trodAll_two hA
  obtain ⟨l0, a0, b0, c0⟩ := arg_ints hsz (j := 0) rfl rfl (hval 0 24 v0 rfl rfl) h0
  obtain ⟨l1, a1, b1, c1⟩ := arg_ints hsz (j := 1) rfl rfl (hval 1 24 v1 rfl rfl) h1
  exact stakeSums_law v0 v1 l0 l1 W a0 a1 b1 c1

theorem stakeSums_holds : Rows.StakeSumsSaid :=
  OpenClaim.holds_of_wide 4 Try.f4 rfl rfl rfl rfl rfl rfl rfl ⟨rfl, rfl, rfl, rfl, rfl⟩ rfl rfl rfl rfl rfl (by kernel_rfl) Try.func4 (by kernel_rfl)
    (of_decide_eq_true (by kernel_rfl)) (by unfold Func.isWrapper; first | (rw [if_pos (by decide +kernel)]; kernel_rfl) | (rw [if_neg (by decide +kernel)]; exact ⟨rfl, rfl⟩))
    (fun os started H enc _ => stakeSums_lifted os started H enc)
#print axioms stakeSums_holds

end Go.Proofs.Ythggokfnmpplmaa
