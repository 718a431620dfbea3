/- The statement ChainNames: the error and the limit have their numbers; nothing is confirmed in the beginning. No condition. -/
import Derived.Test.YtpnbkgeglgiihaaCLa
import Derived.Test.YtpnbkgeglgiihaaFL
namespace Go.Proofs.Ytpnbkgeglgiihaa
set_option maxRecDepth 100000
open Go.RowKit Go.ChangeShapes Go.WideShapes Go.ChangeAt

def cS1 : BlkD := ⟨1, 0, 0, 0, []⟩
theorem tk0T : tkT [] 0 ⟨[], []⟩ cS1 = ⟨[], []⟩ := by kernel_rfl
theorem tk0E : tkE [] 0 ⟨[], []⟩ cS1 = 111 := by kernel_rfl
theorem bk0 : backN (TrS.path [] (TrS.tip [])) 0 = 0 := by kernel_rfl
theorem rawS1 : cS1.Raw := ⟨by simp [cS1], by simp [cS1], by simp [cS1], by simp [cS1], by simp [cS1]⟩

set_option maxRecDepth 100000 in
set_option maxHeartbeats 1600000 in
theorem chainNames_any (W : World) : Calls Try.prog 3 #[] W fun e w' => e = .returned (.bool true) ∧ Ext W w' := by
  refine calls_keep ?_
  have hD := hide_ (show DrOk [] from by decide)
  go_enter Try.func3, Try.ntmps3
  go_wp2_with ((first
    | (go_at_call 8; refine (CNew_any (deep := 0) (Ints.nil W) hD.out ⟨by omega, by omega⟩).mono ?_; rintro e w1 ⟨q, p, dv, H, rfl, hC, hx, hq, hH⟩; have hO : Out W (CQ H q) w1 := ⟨hx, fun k hk => hk.elim (hH k) (fun e => e ▸ hq)⟩; clear hx hq hH)
    | (go_at_call 9; refine (CTake_any (b := cS1) hC (by simp) (OwnT.nil 0 _).recs rawS1).mono ?_; rintro e w1 ⟨v2, H2, rfl, _, hC2, hU⟩; rw [tk0T] at hC2; rw [tk0E]; replace hC := hC2; replace hO := hO.ch hU; clear hC2 hU)
    | (go_at_call 10; refine (chainAlive_any _).mono ?_; rintro e w1 ⟨rfl, hx⟩; replace hC := hC.ext hx; replace hO := hO.extend hx; clear hx)
    | (go_at_call 11; refine (CConf_any hC).mono ?_; rintro e w1 ⟨rfl, hx⟩; rw [bk0]; replace hC := hC.ext hx; replace hO := hO.extend hx; clear hx)
    | (go_at_call 12; refine (CSlot_any hC).mono ?_; rintro e w1 ⟨rfl, hx⟩; replace hC := hC.ext hx; replace hO := hO.extend hx; clear hx)
    | ((with_reducible refine at_sbuild ?_); refine w_sbuild Try.stBlk [.int .i64 1, .int .i64 0, .int .i64 0, .int .i64 0, .slice none 0 0] rfl rfl rfl (by intro p hp; simp at hp; rcases hp with rfl; exact ⟨by decide, rfl⟩) ?_)
    | fail) <;> (try simp only [Act.put, List.setIfInBounds_toArray, List.set_cons_zero, List.set_cons_succ]))
  go_ret
  exact Keep.intro ⟨rfl, hO.ext⟩

set_option maxRecDepth 100000 in
theorem chainNames_lifted (os : Os) (started : os.Started) (H : Type) (enc : TypeId × Value → H) :
    ReturnsInHanded {} Try.checked os 3 .any (Rows.chainNamesSpec.pre6 enc Try.prog Try.f3 Rows.chainNamesRow.domain false) (Rows.chainNamesSpec.post enc Try.prog Try.f3 false true false false) := by
  refine law_lifted (s := Rows.chainNamesSpec) (conds := Rows.chainNamesRow.domain) Try.func3 (by kernel_rfl) rfl (fun H ds h => by
      rw [show Try.f3.params.size = 0 from rfl] at h
      obtain rfl : ds = [] := List.eq_nil_of_length_eq_zero h
      rfl) rfl rfl (by decide +kernel) os started H enc
    (ChangeSpec.witness6 (enc := enc) (C := Try.checked) false ⟨#[], #[], []⟩ 8 (by kernel_rfl) (by kernel_rfl) (by kernel_rfl) (by kernel_rfl)) ?_
  intro W base args ds p hval hA hsz _
  obtain rfl : args = #[] := by cases args with | mk l => cases l with | nil => rfl | cons v vs => cases ds <;> exact hA.elim
  exact chainNames_any W

theorem chainNames_holds : Rows.ChainNamesSaid :=
  OpenClaim.holds_of_wide 3 Try.f3 rfl rfl rfl rfl rfl rfl rfl ⟨rfl, rfl, rfl, rfl, rfl⟩ rfl rfl rfl rfl rfl (by kernel_rfl) Try.func3 (by kernel_rfl)
    (of_decide_eq_true (by kernel_rfl)) (by unfold Func.isWrapper; first | (rw [if_pos (by decide +kernel)]; kernel_rfl) | (rw [if_neg (by decide +kernel)]; exact ⟨rfl, rfl⟩))
    (fun os started H enc _ => chainNames_lifted os started H enc)
#print axioms chainNames_holds

end Go.Proofs.Ytpnbkgeglgiihaa
