/- The statement TallyNames: without votes nothing is told. -/
import Derived.Test.YtmhmkaginnddeaaTlU
import Derived.Test.YtmhmkaginnddeaaFL
namespace Go.Proofs.Ytmhmkaginnddeaa
set_option maxRecDepth 100000
open Go.RowKit Go.ChangeShapes Go.WideShapes Go.ChangeAt

theorem nv_comm : (ofV []).commOf [1] = none := by kernel_rfl
theorem nv_most : (ofV []).mostOf [1] 4 0 = none := by kernel_rfl
theorem nv_all : (ofV []).all ([1] : List Int).length 4 0 = [] := by kernel_rfl
theorem nv_ahead : (ofV []).aheadOf [1] 3 = 3 := Tab.aheadOf_self fun j _ _ ha => by
  have h0 : picks ((ofV []).from' j) ([1] : List Int).length = [] := List.eq_nil_iff_forall_not_mem.2 fun x hx => by
    obtain ⟨i, _, hp, _⟩ := mem_picks.1 hx
    obtain ⟨d, hd, _⟩ := (from_iff (n := 1) (L := []) (by simp)).1 hp
    cases hd
  unfold Tab.Ahd at ha
  rw [h0] at ha
  revert ha; decide

set_option maxRecDepth 100000 in
set_option maxHeartbeats 3200000 in
theorem tallyNames_law (w : World) : Calls Try.prog 3 #[] w fun e w' => e = .returned (.bool true) ∧ Ext w w' := by
  refine calls_keep ?_
  have hX := Ext.refl w
  go_enter Try.func3, Try.ntmps3
  go_wp2_with ((first
    | go_big_skip
    | ((with_reducible refine at_lit ?_); refine w_new Try.elI (i64s [1]) rfl rfl rfl (i64s_cells _) rfl (by omega) ?_; intro v6 w1 hx o6; replace o6 : OwnI w.heap.size w1 v6 [1] := o6; replace hX := hX.trans hx; clear hx)
    | (go_at_call 9; refine (newS o6.ints (by decide) hX).mono ?_; rintro e w2 ⟨p, rfl, hT, hx⟩; replace hX := hX.trans hx; clear hx o6)
    | (go_at_call 10; refine (TComm_any hT (by omega) nv_comm).mono ?_; rintro e w7 ⟨he, hx⟩; replace he : e = .returned (.tuple #[.int .i64 0, .bool false]) := he; subst he; replace hT := hT.ext hx; replace hX := hX.trans hx; clear hx)
    | (go_at_call 11; refine (TMost_any hT (by omega) (by unfold In64; omega) (by unfold In64; omega) nv_most).mono ?_; rintro e w7 ⟨he, hx⟩; replace he : e = .returned (.tuple #[.int .i64 0, .bool false]) := he; subst he; replace hT := hT.ext hx; replace hX := hX.trans hx; clear hx)
    | (go_at_call 12; refine (tallyAlive_any _).mono ?_; rintro e w7 ⟨rfl, hx⟩; replace hT := hT.ext hx; replace hX := hX.trans hx; clear hx)
    | (go_at_call 13; refine (aheadS hT (by omega) nv_ahead).mono ?_; rintro e w7 ⟨rfl, hx⟩; replace hT := hT.ext hx; replace hX := hX.trans hx; clear hx)
    | (go_at_call 14; refine (TAll_any hT (by omega) (by unfold In64; omega) (by unfold In64; omega) nv_all).mono ?_; rintro e w7 ⟨u, rfl, o, hx⟩; replace hT := hT.ext hx; replace hX := hX.trans hx; clear hx)
    | ((with_reducible refine at_bi ?_); (try refine w_yes _ _ _ rfl rfl rfl ?_); refine i_len _ rfl rfl rfl o.ints ?_)
    | ((with_reducible refine at_ext ?_); refine wpList_runs rfl (runs_extract rfl rfl rfl) ?_; simp only [List.getElem_toArray, List.getElem_cons_succ, List.getElem_cons_zero])
    | fail) <;> (try simp only [Act.put, List.setIfInBounds_toArray, List.set_cons_zero, List.set_cons_succ]))
  go_ret
  exact Keep.intro ⟨rfl, hX⟩

set_option maxRecDepth 100000 in
theorem tallyNames_lifted (os : Os) (started : os.Started) (H : Type) (enc : TypeId × Value → H) :
    ReturnsInHanded {} Try.checked os 3 .any (Rows.tallyNamesSpec.pre6 enc Try.prog Try.f3 Rows.tallyNamesRow.domain false) (Rows.tallyNamesSpec.post enc Try.prog Try.f3 false true false false) := by
  refine law_lifted (s := Rows.tallyNamesSpec) (conds := Rows.tallyNamesRow.domain) Try.func3 (by kernel_rfl) rfl (fun H ds h => by
      rw [show Try.f3.params.size = 0 from rfl] at h
      obtain rfl : ds = [] := List.eq_nil_of_length_eq_zero h
      rfl) rfl rfl (by decide +kernel) os started H enc
    (ChangeSpec.witness6 (enc := enc) (C := Try.checked) false ⟨#[], #[], []⟩ 8 (by kernel_rfl) (by kernel_rfl) (by kernel_rfl) (by kernel_rfl)) ?_
  intro W base args ds p hval hA hsz _
  obtain rfl : args = #[] := by cases args with | mk l => cases l with | nil => rfl | cons v vs => cases ds <;> exact hA.elim
  exact tallyNames_law W

theorem tallyNames_holds : Rows.TallyNamesSaid :=
  OpenClaim.holds_of_wide 3 Try.f3 rfl rfl rfl rfl rfl rfl rfl ⟨rfl, rfl, rfl, rfl, rfl⟩ rfl rfl rfl rfl rfl (by kernel_rfl) Try.func3 (by kernel_rfl)
    (of_decide_eq_true (by kernel_rfl)) (by unfold Func.isWrapper; first | (rw [if_pos (by decide +kernel)]; kernel_rfl) | (rw [if_neg (by decide +kernel)]; exact ⟨rfl, rfl⟩))
    (fun os started H enc _ => tallyNames_lifted os started H enc)
#print axioms tallyNames_holds

end Go.Proofs.Ytmhmkaginnddeaa
