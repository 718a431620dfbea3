/- The chapter's example holds; the statement TxNames: the error's number; nothing is no transaction. No condition. -/
import Derived.Test.YtabbgnlabiakoaaTx7
import Derived.Test.YtabbgnlabiakoaaLift
namespace Go.Proofs.Ytabbgnlabiakoaa
open Go.RowKit Go.ChangeShapes Go.WideShapes Go.ChangeAt

theorem ar15 : (⟨1, 5⟩ : TxD).Right := by decide
theorem rdTx_nil : rdTx [] = none := rdTx_c1 (by rw [show (2 : Nat) = 1 + 1 from rfl, rns_none (.inl rfl)])
section
variable {w : World} {v : Value} {b : List Nat} {t : TxD}
theorem TRead_yes (h : rdTx b = some t) (hb : ∀ x ∈ b, x < 256) (hlen : b.length ≤ 140737488355328) (hv : Byt w v b) :
    Calls Try.prog 10 #[v] w fun e w' => e = .returned (.tuple #[.agg #[.int .i64 t.id, .int .i64 t.fee], .int .i64 0]) ∧ Ext w w' := by
  have := TRead_any hb hlen hv
  rw [h] at this; exact this
theorem TRead_no (h : rdTx b = none) (hb : ∀ x ∈ b, x < 256) (hlen : b.length ≤ 140737488355328) (hv : Byt w v b) :
    Calls Try.prog 10 #[v] w fun e w' => e = .returned (.tuple #[.agg #[.int .i64 0, .int .i64 0], .int .i64 61]) ∧ Ext w w' := by
  have := TRead_any hb hlen hv
  rw [h] at this; exact this
end

set_option maxRecDepth 100000 in
set_option maxHeartbeats 800000 in
theorem alive_any (W : World) : Calls Try.prog 11 #[] W fun e w' => e = .returned (.bool true) ∧ Ext W w' := by
  refine calls_keep ?_
  have e1 := hide_ (show nuL (⟨1, 5⟩ : TxD).nums = [2, 6] from by simp [TxD.nums, nuL, numL_small])
  have e2 := hide_ (show strN [2, 6] = { data := #[2, 6] } from rfl)
  have e3 := hide_ (show TxD.less ⟨9, 5⟩ ⟨1, 4⟩ = true from by decide)
  have e4 := hide_ (show decide (⟨0, 0⟩ : TxD).Right = false from by decide)
  go_enter Try.func11, Try.ntmps11
  go_wp2_with ((first
    | ((try refine w_yes _ _ _ rfl rfl rfl ?_); refine w_sbuild Try.stTx [.int .i64 1, .int .i64 5] rfl rfl rfl (by intro p hp; simp at hp; rcases hp with rfl | rfl <;> exact ⟨by decide, rfl⟩) ?_)
    | ((try refine w_yes _ _ _ rfl rfl rfl ?_); refine w_sbuild Try.stTx [.int .i64 9, .int .i64 5] rfl rfl rfl (by intro p hp; simp at hp; rcases hp with rfl | rfl <;> exact ⟨by decide, rfl⟩) ?_)
    | ((try refine w_yes _ _ _ rfl rfl rfl ?_); refine w_sbuild Try.stTx [.int .i64 1, .int .i64 4] rfl rfl rfl (by intro p hp; simp at hp; rcases hp with rfl | rfl <;> exact ⟨by decide, rfl⟩) ?_)
    | ((try refine w_yes _ _ _ rfl rfl rfl ?_); refine w_sbuild Try.stTx [.int .i64 0, .int .i64 0] rfl rfl rfl (by intro p hp; simp at hp) ?_)
    | (go_at_call 12; refine (TBytes_yes (t := ⟨1, 5⟩) ar15 _).mono ?_; rintro e w1 ⟨v1, rfl, o1, hX⟩; rw [e1.out] at o1; have b1 := o1.byt; clear o1)
    | ((try refine w_yes _ _ _ rfl rfl rfl ?_); refine w_str _ rfl rfl (v := v1) rfl b1 ?_; rw [e2.out])
    | ((try refine w_yes _ _ _ rfl rfl rfl ?_); go_at_call 16; refine (Less_any ⟨9, 5⟩ ⟨1, 4⟩ _).mono ?_; rintro e w2 ⟨rfl, hx2⟩; rw [e3.out]; replace hX := hX.trans hx2; clear hx2 b1)
    | ((try refine w_yes _ _ _ rfl rfl rfl ?_); go_at_call 14; refine (Right_any ⟨0, 0⟩ _).mono ?_; rintro e w3 ⟨rfl, hx3⟩; rw [e4.out]; replace hX := hX.trans hx3; clear hx3)
    | fail) <;> (try simp only [Act.put, List.setIfInBounds_toArray, List.set_cons_zero, List.set_cons_succ]))
  go_ret
  exact Keep.intro ⟨rfl, hX⟩
theorem aliveR (w : World) : Calls Try.prog 11 #[] w fun e w' => ∃ v', e = .returned v' ∧ Ext w w' ∧ Sp.p (.val (.bool true)) v' w' := by
  refine (alive_any w).mono ?_
  rintro e w' ⟨rfl, hx⟩
  exact ⟨_, rfl, hx, rfl⟩

set_option maxRecDepth 100000 in
set_option maxHeartbeats 800000 in
theorem txNames_any (W : World) : Calls Try.prog 3 #[] W fun e w' => e = .returned (.bool true) ∧ Ext W w' := by
  refine calls_keep ?_
  have hb := Byt.nil W
  have h0 := hide_ (show ∀ x ∈ ([] : List Nat), x < 256 from by simp)
  go_enter Try.func3, Try.ntmps3
  go_wp2_with ((first
    | (go_at_call 10; refine (TRead_no rdTx_nil h0.out (by simp) hb).mono ?_; rintro e w1 ⟨rfl, hX⟩)
    | (go_at_call 11; refine (alive_any _).mono ?_; rintro e w2 ⟨rfl, hx2⟩; replace hX := hX.trans hx2; clear hx2)
    | (refine w_alloc Try.stTx rfl rfl ?_; intro g1 w3 hg1 hx3 f1)
    | (refine w_astore Try.stTx (us := [.int .i64 0, .int .i64 0]) _ _ rfl rfl rfl rfl rfl f1 rfl rfl (TxD.one ⟨0, 0⟩) ?_; intro w4 hm4 f4; replace hX := hX.trans (hm4.after hx3 (fun i e => e ▸ hg1)); clear f4 hm4 hx3 f1)
    | fail) <;> (try simp only [Act.put, List.setIfInBounds_toArray, List.set_cons_zero, List.set_cons_succ]))
  go_ret
  exact Keep.intro ⟨rfl, hX⟩

set_option maxRecDepth 100000 in
theorem txNames_lifted (os : Os) (started : os.Started) (H : Type) (enc : TypeId × Value → H) :
    ReturnsInHanded {} Try.checked os 3 .any (Rows.txNamesSpec.pre6 enc Try.prog Try.f3 Rows.txNamesRow.domain false) (Rows.txNamesSpec.post enc Try.prog Try.f3 false true false false) := by
  refine law_lifted (s := Rows.txNamesSpec) (conds := Rows.txNamesRow.domain) Try.func3 (by kernel_rfl) rfl (fun H ds h => by
      rw [show Try.f3.params.size = 0 from rfl] at h
      obtain rfl : ds = [] := List.eq_nil_of_length_eq_zero h
      rfl) rfl rfl (by decide +kernel) os started H enc
    (ChangeSpec.witness6 (enc := enc) (C := Try.checked) false ⟨#[], #[], []⟩ 8 (by kernel_rfl) (by kernel_rfl) (by kernel_rfl) (by kernel_rfl)) ?_
  intro W base args ds p hval hA hsz _
  obtain rfl : args = #[] := by cases args with | mk l => cases l with | nil => rfl | cons v vs => cases ds <;> exact hA.elim
  exact txNames_any W

theorem txNames_holds : Rows.TxNamesSaid :=
  OpenClaim.holds_of_wide 3 Try.f3 rfl rfl rfl rfl rfl rfl rfl ⟨rfl, rfl, rfl, rfl, rfl⟩ rfl rfl rfl rfl rfl (by kernel_rfl) Try.func3 (by kernel_rfl)
    (of_decide_eq_true (by kernel_rfl)) (by unfold Func.isWrapper; first | (rw [if_pos (by decide +kernel)]; kernel_rfl) | (rw [if_neg (by decide +kernel)]; exact ⟨rfl, rfl⟩))
    (fun os started H enc _ => txNames_lifted os started H enc)
#print axioms txNames_holds

end Go.Proofs.Ytabbgnlabiakoaa
