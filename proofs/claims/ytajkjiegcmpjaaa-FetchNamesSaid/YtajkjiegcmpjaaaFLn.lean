/- The statement FetchNames: the limits have their numbers; nothing is wanted that is no block's name; who is alone asks nobody. No condition. -/
import Derived.Test.YtajkjiegcmpjaaaPk19
namespace Go.Proofs.Ytajkjiegcmpjaaa
set_option maxHeartbeats 3200000
set_option maxRecDepth 100000
open Go.RowKit Go.ChangeShapes Go.WideShapes Go.ChangeAt
theorem canN : Fe.can [] 5 = false := by decide
theorem fetchNames_law (W : World) : Calls Try.prog 4 #[] W fun e w' => e = .returned (.bool true) ∧ Ext W w' := by
  refine z2cz ?_
  have tok1 : True := trivial
  go_enter Try.func4, Try.ntmps4
  go_wp2_with ((first | (go_at_call 15; refine (fetchAlive_any _).mono ?_; rintro e w2 ⟨rfl, hX⟩) | (go_at_call 16; refine (FNew_any 0 3).mono ?_; have _t := tok1; rintro e w1 ⟨p, rfl, hP, hx, hp⟩; have hO : Out W (fun k => k = p) w1 := ⟨hX.trans hx, fun k hk => hk ▸ Nat.le_trans hX.size hp⟩; clear hx hp tok1 _t hX) | (go_at_call 17; refine (FWant_any hP (Fe.Ok.nil 0) (by unfold I64; omega) canN).mono ?_; rintro e w2 ⟨F1, rfl, hP2, hU⟩; have hX := (hO.upd hU).ext; clear hP hP2 hO hU) | (go_at_call 16; refine (FNew_any 0 1).mono ?_; rintro e w1 ⟨p2, rfl, hP, hx, hp⟩; have hO : Out W (fun k => k = p2) w1 := ⟨hX.trans hx, fun k hk => hk ▸ Nat.le_trans hX.size hp⟩; clear hx hp hX) | (go_at_call 18; refine (FTick_any (me := 0) (nd := 1) hP (Fe.Ok.nil 0) (by decide) (by decide) (by decide)).mono ?_; rintro e w4 ⟨v4, rfl, hP2, hr40, hm⟩; have hr4 := hide_ (at_recs hr40); have hX4 := hO.ext; replace hP := hP2; replace hO := hO.upd ⟨hm, fun _ h => .inl h⟩; clear hr40 hm hP2 hX4) | refine z32z ?_ | fail) <;> (try refine z0z ?_))
  go_ret
  exact Keep.intro ⟨rfl, hO.ext⟩
theorem fetchNames_lifted (os : Os) (started : os.Started) (H : Type) (enc : TypeId × Value → H) :
    ReturnsInHanded {} Try.checked os 4 .any (Rows.fetchNamesSpec.pre6 enc Try.prog Try.f4 Rows.fetchNamesRow.domain false) (Rows.fetchNamesSpec.post enc Try.prog Try.f4 false true false false) := by
  refine law_lifted (s := Rows.fetchNamesSpec) (conds := Rows.fetchNamesRow.domain) Try.func4 (by kernel_rfl) rfl (fun H ds h => by
      rw [show Try.f4.params.size = 0 from rfl] at h
      obtain rfl : ds = [] := List.eq_nil_of_length_eq_zero h
      rfl) rfl rfl (by decide +kernel) os started H enc
    (ChangeSpec.witness6 (enc := enc) (C := Try.checked) false ⟨#[], #[], []⟩ 8 (by kernel_rfl) (by kernel_rfl) (by kernel_rfl) (by kernel_rfl)) ?_
  intro W base args ds p hval hA hsz _
  obtain rfl : args = #[] := by cases args with | mk l => cases l with | nil => rfl | cons v vs => cases ds <;> exact hA.elim
  exact fetchNames_law W
theorem fetchNames_holds : Rows.FetchNamesSaid :=
  OpenClaim.holds_of_wide 4 Try.f4 rfl rfl rfl rfl rfl rfl rfl ⟨rfl, rfl, rfl, rfl, rfl⟩ rfl rfl rfl rfl rfl (by kernel_rfl) Try.func4 (by kernel_rfl)
    (of_decide_eq_true (by kernel_rfl)) (by unfold Func.isWrapper; first | (rw [if_pos (by decide +kernel)]; kernel_rfl) | (rw [if_neg (by decide +kernel)]; exact ⟨rfl, rfl⟩))
    (fun os started H enc _ => fetchNames_lifted os started H enc)
#print axioms fetchNames_holds
end Go.Proofs.Ytajkjiegcmpjaaa
