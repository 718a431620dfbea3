/- The statement WireTexts: any text as bytes, and the text of any bytes. No condition. -/
import Derived.Test.YtjabedimhdhiiaaRefText
import Derived.Test.YtjabedimhdhiiaaWNums
namespace Go.Proofs.Ytjabedimhdhiiaa
open Go.RowKit Go.ChangeShapes Go.WideShapes Go.ChangeAt

set_option maxRecDepth 100000 in
set_option maxHeartbeats 2000000 in
theorem texts_law (va vb : Value) (la lb : List Nat) (W : World) (ha : Byt W va la) (hb : Byt W vb lb) (hlb : ∀ x ∈ lb, x < 256) (hna : la.length ≤ 140737488355328) (hnb : lb.length ≤ 140737488355328) :
    Calls Try.prog 6 #[va, vb] W fun e w' => e = .returned (.bool true) ∧ Ext W w' := by
  refine calls_keep ?_
  have hba : ([] : List Nat).length + la.length ≤ 140737488355328 := by simpa using hna
  have hbb : ([] : List Nat).length + lb.length ≤ 140737488355328 := by simpa using hnb
  go_enter Try.func6, Try.ntmps6
  go_upto_region 5 with (first
    | (at_builtin; refine appb (.tmp 16) (.tmp 17) rfl rfl rfl rfl own_empty (ha.ext ((Ext.refl _).alloc _)) hba (by simp) ?_; intro v2 w2 ho2 hb2 hg2; have H3 := ho2.byt; have hx2 := ext_alloc_below hb2; clear ho2 hb2 hg2)
    | (go_at_call 21; refine (Text_any v2 la _ H3).mono ?_; rintro e w3 ⟨v3, rfl, ho3, hx3⟩; have H4 := ho3.byt; have H5 := (ha.ext hx2).ext hx3; have H6 := (hb.ext hx2).ext hx3; clear ho3 H3)
    | (go_at_call 22; refine (refText_any va la _ H5).mono ?_; rintro e w4 ⟨v4, rfl, ho4, hx4⟩; have H7 := ho4.byt; have H8 := H4.ext hx4; have H9 := H6.ext hx4; clear ho4 H4 H5 H6)
    | (at_builtin; refine appb (.tmp 28) (.tmp 29) rfl rfl rfl rfl own_empty (H9.ext ((Ext.refl _).alloc _)) hbb (by simp) ?_; intro v5 w5 ho5 hb5 hg5; have I1 := ho5.byt; have hx5 := ext_alloc_below hb5; clear ho5 hb5 hg5)
    | (go_at_call 23; refine (ReadText_any v5 lb _ hlb I1 (by omega)).mono ?_; rintro e w6 ⟨v6, v7, rfl, I2, I3, hx6⟩; have I4 := (H9.ext hx5).ext hx6; clear I1)
    | (go_at_call 24; refine (refReadText_any vb lb _ hlb I4 hnb).mono ?_; rintro e w7 ⟨v8, v9, rfl, K12, K13, hx7⟩; have K5 := ((H8.ext hx5).ext hx6).ext hx7; have K7 := ((H7.ext hx5).ext hx6).ext hx7; have K9 := I2.ext hx7; have K10 := I3.ext hx7; have hX := ((((hx2.trans hx3).trans hx4).trans hx5).trans hx6).trans hx7; clear H7 H8 H9 I2 I3 I4))
  refine wp_region_seqR (by kernel_rfl) ?_
  refine LinR.step (s := (.val (.bool true))) [] rfl (by kernel_rfl) (op_calls 12 #[] #[] (fun σ => #[]) rfl rfl (fun _ _ => rfl) fun σ w' hx hg => ⟨by simp, aliveR w'⟩) ?_
  refine LinR.step (s := (.val (.bool true))) [(41, some 0)] rfl (by kernel_rfl) (op_copy 41 0 (.val (.bool true)) rfl (.inl rfl) rfl) ?_
  refine LinR.step (s := (.val (v3))) [(5, none), (42, some 0)] rfl (by kernel_rfl) (op_yes (reads := [(5, none)]) 1 42 0 true rfl rfl rfl (op_out 5 (v3) rfl (.inl rfl) rfl)) ?_
  refine LinR.step (s := (.val (.string (strN (txL la))))) [(43, some 0), (42, some 1)] rfl (by kernel_rfl) (op_yes (reads := [(43, some 0)]) 1 42 1 true rfl rfl rfl (op_runs rfl fun σ w' hx hg => ⟨_, runs_str (ρ := σ.eval) (w := w') (.tmp 43) rfl (hg.1) (K5.ext hx), rfl⟩)) ?_
  refine LinR.step (s := (.val (v4))) [(7, none), (42, some 2)] rfl (by kernel_rfl) (op_yes (reads := [(7, none)]) 1 42 2 true rfl rfl rfl (op_out 7 (v4) rfl (.inl rfl) rfl)) ?_
  refine LinR.step (s := (.val (.string (strN (txL la))))) [(45, some 0), (42, some 3)] rfl (by kernel_rfl) (op_yes (reads := [(45, some 0)]) 1 42 3 true rfl rfl rfl (op_runs rfl fun σ w' hx hg => ⟨_, runs_str (ρ := σ.eval) (w := w') (.tmp 45) rfl (hg.1) (K7.ext hx), rfl⟩)) ?_
  refine LinR.step (s := (.val (.bool true))) [(44, some 2), (46, some 0), (42, some 4)] rfl (by kernel_rfl) (op_yes (reads := [(44, some 2), (46, some 0)]) 1 42 4 true rfl rfl rfl (op_runs rfl fun σ w' hx hg => ⟨(.bool true), by have h44 : σ.tmps.getD 44 undef = .string (strN (txL la)) := hg.1; have h46 : σ.tmps.getD 46 undef = .string (strN (txL la)) := hg.2.1; unfold Runs execOp; simp [Act.eval, h44, h46, go_sem], rfl⟩)) ?_
  refine LinR.step (s := (.val (.bool true))) [(42, some 5), (47, some 0)] rfl (by kernel_rfl) (op_runs rfl fun σ w' hx hg => ⟨(.bool true), runs_pick_t (ρ := σ.eval) (w := w') (.tmp 42) (.tmp 47) (.const (.bool false)) rfl hg.1 hg.2.1, rfl⟩) ?_
  refine LinR.step (s := (.val (.bool true))) [(48, some 0)] rfl (by kernel_rfl) (op_copy 48 0 (.val (.bool true)) rfl (.inl rfl) rfl) ?_
  refine LinR.step (s := (.val (.int .i64 (txErr la : Nat)))) [(6, none), (49, some 0)] rfl (by kernel_rfl) (op_yes (reads := [(6, none)]) 8 49 0 true rfl rfl rfl (op_out 6 (.int .i64 (txErr la : Nat)) rfl (.inl rfl) rfl)) ?_
  refine LinR.step (s := (.val (.int .i64 (txErr la : Nat)))) [(8, none), (49, some 1)] rfl (by kernel_rfl) (op_yes (reads := [(8, none)]) 8 49 1 true rfl rfl rfl (op_out 8 (.int .i64 (txErr la : Nat)) rfl (.inl rfl) rfl)) ?_
  refine LinR.step (s := (.val (.bool true))) [(50, some 1), (51, some 0), (49, some 2)] rfl (by kernel_rfl) (op_yes (reads := [(50, some 1), (51, some 0)]) 8 49 2 true rfl rfl rfl (op_runs rfl fun σ w' hx hg => ⟨(.bool true), by have h50 : σ.tmps.getD 50 undef = .int .i64 (txErr la : Nat) := hg.1; have h51 : σ.tmps.getD 51 undef = .int .i64 (txErr la : Nat) := hg.2.1; unfold Runs execOp; simp [Act.eval, h50, h51, go_sem], rfl⟩)) ?_
  refine LinR.step (s := (.val (.bool true))) [(49, some 3), (52, some 0)] rfl (by kernel_rfl) (op_runs rfl fun σ w' hx hg => ⟨(.bool true), runs_pick_t (ρ := σ.eval) (w := w') (.tmp 49) (.tmp 52) (.const (.bool false)) rfl hg.1 hg.2.1, rfl⟩) ?_
  refine LinR.step (s := (.val (.bool true))) [(53, some 0)] rfl (by kernel_rfl) (op_copy 53 0 (.val (.bool true)) rfl (.inl rfl) rfl) ?_
  refine LinR.step (s := (.val (v6))) [(9, none), (54, some 0)] rfl (by kernel_rfl) (op_yes (reads := [(9, none)]) 13 54 0 true rfl rfl rfl (op_out 9 (v6) rfl (.inl rfl) rfl)) ?_
  refine LinR.step (s := (.val (.string (strN (rtL lb))))) [(55, some 0), (54, some 1)] rfl (by kernel_rfl) (op_yes (reads := [(55, some 0)]) 13 54 1 true rfl rfl rfl (op_runs rfl fun σ w' hx hg => ⟨_, runs_str (ρ := σ.eval) (w := w') (.tmp 55) rfl (hg.1) (K9.ext hx), rfl⟩)) ?_
  refine LinR.step (s := (.val (v8))) [(12, none), (54, some 2)] rfl (by kernel_rfl) (op_yes (reads := [(12, none)]) 13 54 2 true rfl rfl rfl (op_out 12 (v8) rfl (.inl rfl) rfl)) ?_
  refine LinR.step (s := (.val (.string (strN (rtL lb))))) [(57, some 0), (54, some 3)] rfl (by kernel_rfl) (op_yes (reads := [(57, some 0)]) 13 54 3 true rfl rfl rfl (op_runs rfl fun σ w' hx hg => ⟨_, runs_str (ρ := σ.eval) (w := w') (.tmp 57) rfl (hg.1) (K12.ext hx), rfl⟩)) ?_
  refine LinR.step (s := (.val (.bool true))) [(56, some 2), (58, some 0), (54, some 4)] rfl (by kernel_rfl) (op_yes (reads := [(56, some 2), (58, some 0)]) 13 54 4 true rfl rfl rfl (op_runs rfl fun σ w' hx hg => ⟨(.bool true), by have h56 : σ.tmps.getD 56 undef = .string (strN (rtL lb)) := hg.1; have h58 : σ.tmps.getD 58 undef = .string (strN (rtL lb)) := hg.2.1; unfold Runs execOp; simp [Act.eval, h56, h58, go_sem], rfl⟩)) ?_
  refine LinR.step (s := (.val (.bool true))) [(54, some 5), (59, some 0)] rfl (by kernel_rfl) (op_runs rfl fun σ w' hx hg => ⟨(.bool true), runs_pick_t (ρ := σ.eval) (w := w') (.tmp 54) (.tmp 59) (.const (.bool false)) rfl hg.1 hg.2.1, rfl⟩) ?_
  refine LinR.step (s := (.val (.bool true))) [(60, some 0)] rfl (by kernel_rfl) (op_copy 60 0 (.val (.bool true)) rfl (.inl rfl) rfl) ?_
  refine LinR.step (s := (.val (v7))) [(10, none), (61, some 0)] rfl (by kernel_rfl) (op_yes (reads := [(10, none)]) 20 61 0 true rfl rfl rfl (op_out 10 (v7) rfl (.inl rfl) rfl)) ?_
  refine LinR.step (s := (.val (.string (strN (rtRest lb))))) [(62, some 0), (61, some 1)] rfl (by kernel_rfl) (op_yes (reads := [(62, some 0)]) 20 61 1 true rfl rfl rfl (op_runs rfl fun σ w' hx hg => ⟨_, runs_str (ρ := σ.eval) (w := w') (.tmp 62) rfl (hg.1) (K10.ext hx), rfl⟩)) ?_
  refine LinR.step (s := (.val (v9))) [(13, none), (61, some 2)] rfl (by kernel_rfl) (op_yes (reads := [(13, none)]) 20 61 2 true rfl rfl rfl (op_out 13 (v9) rfl (.inl rfl) rfl)) ?_
  refine LinR.step (s := (.val (.string (strN (rtRest lb))))) [(64, some 0), (61, some 3)] rfl (by kernel_rfl) (op_yes (reads := [(64, some 0)]) 20 61 3 true rfl rfl rfl (op_runs rfl fun σ w' hx hg => ⟨_, runs_str (ρ := σ.eval) (w := w') (.tmp 64) rfl (hg.1) (K13.ext hx), rfl⟩)) ?_
  refine LinR.step (s := (.val (.bool true))) [(63, some 2), (65, some 0), (61, some 4)] rfl (by kernel_rfl) (op_yes (reads := [(63, some 2), (65, some 0)]) 20 61 4 true rfl rfl rfl (op_runs rfl fun σ w' hx hg => ⟨(.bool true), by have h63 : σ.tmps.getD 63 undef = .string (strN (rtRest lb)) := hg.1; have h65 : σ.tmps.getD 65 undef = .string (strN (rtRest lb)) := hg.2.1; unfold Runs execOp; simp [Act.eval, h63, h65, go_sem], rfl⟩)) ?_
  refine LinR.step (s := (.val (.bool true))) [(61, some 5), (66, some 0)] rfl (by kernel_rfl) (op_runs rfl fun σ w' hx hg => ⟨(.bool true), runs_pick_t (ρ := σ.eval) (w := w') (.tmp 61) (.tmp 66) (.const (.bool false)) rfl hg.1 hg.2.1, rfl⟩) ?_
  refine LinR.step (s := (.val (.bool true))) [(67, some 0)] rfl (by kernel_rfl) (op_copy 67 0 (.val (.bool true)) rfl (.inl rfl) rfl) ?_
  refine LinR.step (s := (.val (.int .i64 (rtErr lb : Nat)))) [(11, none), (68, some 0)] rfl (by kernel_rfl) (op_yes (reads := [(11, none)]) 27 68 0 true rfl rfl rfl (op_out 11 (.int .i64 (rtErr lb : Nat)) rfl (.inl rfl) rfl)) ?_
  refine LinR.step (s := (.val (.int .i64 (rtErr lb : Nat)))) [(14, none), (68, some 1)] rfl (by kernel_rfl) (op_yes (reads := [(14, none)]) 27 68 1 true rfl rfl rfl (op_out 14 (.int .i64 (rtErr lb : Nat)) rfl (.inl rfl) rfl)) ?_
  refine LinR.step (s := (.val (.bool true))) [(69, some 1), (70, some 0), (68, some 2)] rfl (by kernel_rfl) (op_yes (reads := [(69, some 1), (70, some 0)]) 27 68 2 true rfl rfl rfl (op_runs rfl fun σ w' hx hg => ⟨(.bool true), by have h69 : σ.tmps.getD 69 undef = .int .i64 (rtErr lb : Nat) := hg.1; have h70 : σ.tmps.getD 70 undef = .int .i64 (rtErr lb : Nat) := hg.2.1; unfold Runs execOp; simp [Act.eval, h69, h70, go_sem], rfl⟩)) ?_
  refine LinR.step (s := (.val (.bool true))) [(68, some 3), (71, some 0)] rfl (by kernel_rfl) (op_runs rfl fun σ w' hx hg => ⟨(.bool true), runs_pick_t (ρ := σ.eval) (w := w') (.tmp 68) (.tmp 71) (.const (.bool false)) rfl hg.1 hg.2.1, rfl⟩) ?_
  refine LinR.step (s := (.val (.bool true))) [(72, some 0)] rfl (by kernel_rfl) (op_copy 72 0 (.val (.bool true)) rfl (.inr rfl) rfl) ?_
  intro wN hxN
  simp only [Fin', Sp.ptr, List.reverse_cons, List.reverse_nil, List.nil_append, List.cons_append]
  simp only [Act.put, List.setIfInBounds_toArray, List.set_cons_zero, List.set_cons_succ]
  go_wp2
  go_ret
  exact Keep.intro ⟨rfl, hX.trans hxN⟩

set_option maxRecDepth 100000 in
theorem texts_lifted (os : Os) (started : os.Started) (H : Type) (enc : TypeId × Value → H) :
    ReturnsInHanded {} Try.checked os 6 .any (Rows.wireTextsSpec.pre6 enc Try.prog Try.f6 Rows.wireTextsRow.domain false) (Rows.wireTextsSpec.post enc Try.prog Try.f6 false true false false) := by
  refine law_lifted (s := Rows.wireTextsSpec) (conds := Rows.wireTextsRow.domain) Try.func6 (by kernel_rfl) rfl (fun H ds h => by
      rw [show Try.f6.params.size = 2 from rfl] at h
      match ds, h with
      | [d0, d1], _ => rfl) rfl rfl (by decide +kernel) os started H enc
    (ChangeSpec.witness6 (enc := enc) (C := Try.checked) false ⟨#[], #[.slice none 0 0, .slice none 0 0], []⟩ 8 (by kernel_rfl) (by kernel_rfl) (by kernel_rfl) (by kernel_rfl)) ?_
  intro W base args ds p hval hA hsz _
  have hp : Try.f6.params.toList = [23, 23] := rfl
  rw [hp] at hA hsz
  obtain ⟨v0, v1, d0, d1, p0, p1, rfl, rfl, rfl, h0, h1⟩ := trodAll_two hA
  obtain ⟨l0, a0, b0, c0⟩ := arg_bytes hsz (j := 0) rfl rfl (hval 0 23 v0 rfl rfl) h0
  obtain ⟨l1, a1, b1, c1⟩ := arg_bytes hsz (j := 1) rfl rfl (hval 1 23 v1 rfl rfl) h1
  exact texts_law v0 v1 l0 l1 W a0 a1 b1 (by omega) (by omega)

theorem texts_holds : Rows.WireTextsSaid :=
  OpenClaim.holds_of_wide 6 Try.f6 rfl rfl rfl rfl rfl rfl rfl ⟨rfl, rfl, rfl, rfl, rfl⟩ rfl rfl rfl rfl rfl (by kernel_rfl) Try.func6 (by kernel_rfl)
    (of_decide_eq_true (by kernel_rfl)) (by unfold Func.isWrapper; first | (rw [if_pos (by decide +kernel)]; kernel_rfl) | (rw [if_neg (by decide +kernel)]; exact ⟨rfl, rfl⟩))
    (fun os started H enc _ => texts_lifted os started H enc)
#print axioms texts_holds

end Go.Proofs.Ytjabedimhdhiiaa
