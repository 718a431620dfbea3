/- The statement WireNums: any number as bytes, and the number of any bytes. No condition. -/
import Derived.Test.YtjabedimhdhiiaaRef
import Derived.Test.YtjabedimhdhiiaaWOnce
namespace Go.Proofs.Ytjabedimhdhiiaa
open Go.RowKit Go.ChangeShapes Go.WideShapes Go.ChangeAt

theorem aliveR (w : World) : Calls Try.prog 12 #[] w fun e w' => ∃ v', e = .returned v' ∧ Ext w w' ∧ Sp.p (.val (.bool true)) v' w' :=
  (alive_any w).mono fun _ _ ⟨he, hx⟩ => ⟨_, he, hx, rfl⟩
theorem refNumR (n : Nat) (w : World) (hn : W64 n) : Calls Try.prog 15 #[.int .u64 n] w fun e w' => ∃ v', e = .returned v' ∧ Ext w w' ∧ Sp.p (.sl (u8s (numL n))) v' w' :=
  (refNum_any n w hn).mono fun _ _ ⟨v', he, ho, hx⟩ => ⟨v', he, hx, ho.byt⟩

set_option maxRecDepth 100000 in
set_option maxHeartbeats 2000000 in
theorem nums_law (n : Nat) (v : Value) (l : List Nat) (W : World) (hn : W64 n) (h : Byt W v l) (hl : ∀ x ∈ l, x < 256) (hlen : l.length ≤ 140737488355328) :
    Calls Try.prog 4 #[.int .u64 n, v] W fun e w' => e = .returned (.bool true) ∧ Ext W w' := by
  refine calls_keep ?_
  have hba : ([] : List Nat).length + l.length ≤ 140737488355328 := by simpa using hlen
  go_enter Try.func4, Try.ntmps4
  go_upto_region 3 with (first
    | (at_builtin; refine appb (.tmp 12) (.tmp 13) rfl rfl rfl rfl own_empty (h.ext ((Ext.refl _).alloc _)) hba (by simp) ?_; intro v2 w2 ho2 hb2 hg2; have H3 := ho2.byt; have hx2 := ext_alloc_below hb2; clear ho2 hb2 hg2)
    | (go_at_call 11; refine (ReadNum_any v2 l _ hl H3 (by omega)).mono ?_; rintro e w3 ⟨v3, rfl, ho3, hx3⟩; have H4 := ho3.byt; have H5 := (h.ext hx2).ext hx3; clear ho3 H3)
    | (go_at_call 13; refine (refReadNum_any v l _ hl H5 hlen).mono ?_; rintro e w5 ⟨v5, rfl, H6, hx5⟩; have K3 := H6.ext (Ext.refl _).drew; have K2 := (H4.ext hx5).ext (Ext.refl _).drew; have hX := ((hx2.trans hx3).trans hx5).drew; clear H4 H5 H6))
  refine wp_region_linR (by kernel_rfl) (by kernel_rfl) ?_
  refine LinR.step (s := (.val (.bool true))) [] rfl (by kernel_rfl) (op_calls 12 #[] #[] (fun σ => #[]) rfl rfl (fun _ _ => rfl) fun σ w' hx hg => ⟨by simp, aliveR w'⟩) ?_
  refine LinR.step (s := (.val (.bool true))) [(25, some 0)] rfl (by kernel_rfl) (op_copy 25 0 (.val (.bool true)) rfl (.inl rfl) rfl) ?_
  refine LinR.step (s := (.val (.int .u64 (n : Nat)))) [(0, none), (26, some 0)] rfl (by kernel_rfl) (op_yes (reads := [(0, none)]) 1 26 0 true rfl rfl rfl (op_out 0 (.int .u64 (n : Nat)) rfl (.inl rfl) rfl)) ?_
  refine LinR.step (s := (.sl (u8s (numL n)))) [(27, some 0), (26, some 1)] rfl (by kernel_rfl) (op_yes (reads := [(27, some 0)]) 1 26 1 true rfl rfl rfl (op_calls 14 #[(.tmp 27)] #[22] (fun σ => #[.int .u64 (n : Nat)]) rfl rfl (fun _ _ => rfl) fun σ w' hx hg => ⟨by have h27 : σ.tmps.getD 27 undef = .int .u64 (n : Nat) := hg.1; simp only [List.map_toArray, List.map_cons, List.map_nil, Act.eval]; rw [h27], numR n w' hn⟩)) ?_
  refine LinR.step (s := (.val (.string (strN (numL n))))) [(28, some 0), (26, some 2)] rfl (by kernel_rfl) (op_yes (reads := [(28, some 0)]) 1 26 2 true rfl rfl rfl (op_runs rfl fun σ w' hx hg => ⟨_, runs_str (ρ := σ.eval) (w := w') (.tmp 28) rfl (rfl) hg.1, rfl⟩)) ?_
  refine LinR.step (s := (.val (.int .u64 (n : Nat)))) [(0, none), (26, some 3)] rfl (by kernel_rfl) (op_yes (reads := [(0, none)]) 1 26 3 true rfl rfl rfl (op_out 0 (.int .u64 (n : Nat)) rfl (.inl rfl) rfl)) ?_
  refine LinR.step (s := (.sl (u8s (numL n)))) [(30, some 0), (26, some 4)] rfl (by kernel_rfl) (op_yes (reads := [(30, some 0)]) 1 26 4 true rfl rfl rfl (op_calls 15 #[(.tmp 30)] #[22] (fun σ => #[.int .u64 (n : Nat)]) rfl rfl (fun _ _ => rfl) fun σ w' hx hg => ⟨by have h30 : σ.tmps.getD 30 undef = .int .u64 (n : Nat) := hg.1; simp only [List.map_toArray, List.map_cons, List.map_nil, Act.eval]; rw [h30], refNumR n w' hn⟩)) ?_
  refine LinR.step (s := (.val (.string (strN (numL n))))) [(31, some 0), (26, some 5)] rfl (by kernel_rfl) (op_yes (reads := [(31, some 0)]) 1 26 5 true rfl rfl rfl (op_runs rfl fun σ w' hx hg => ⟨_, runs_str (ρ := σ.eval) (w := w') (.tmp 31) rfl (rfl) hg.1, rfl⟩)) ?_
  refine LinR.step (s := (.val (.bool true))) [(29, some 3), (32, some 0), (26, some 6)] rfl (by kernel_rfl) (op_yes (reads := [(29, some 3), (32, some 0)]) 1 26 6 true rfl rfl rfl (op_runs rfl fun σ w' hx hg => ⟨(.bool true), by have h29 : σ.tmps.getD 29 undef = .string (strN (numL n)) := hg.1; have h32 : σ.tmps.getD 32 undef = .string (strN (numL n)) := hg.2.1; unfold Runs execOp; simp [Act.eval, h29, h32, go_sem], rfl⟩)) ?_
  refine LinR.step (s := (.val (.bool true))) [(26, some 7), (33, some 0)] rfl (by kernel_rfl) (op_runs rfl fun σ w' hx hg => ⟨(.bool true), runs_pick_t (ρ := σ.eval) (w := w') (.tmp 26) (.tmp 33) (.const (.bool false)) rfl hg.1 hg.2.1, rfl⟩) ?_
  refine LinR.step (s := (.val (.bool true))) [(34, some 0)] rfl (by kernel_rfl) (op_copy 34 0 (.val (.bool true)) rfl (.inl rfl) rfl) ?_
  refine LinR.step (s := (.val (.int .u64 ((rd l).1 : Nat)))) [(5, none), (35, some 0)] rfl (by kernel_rfl) (op_yes (reads := [(5, none)]) 10 35 0 true rfl rfl rfl (op_out 5 (.int .u64 ((rd l).1 : Nat)) rfl (.inl rfl) rfl)) ?_
  refine LinR.step (s := (.val (.int .u64 ((rd l).1 : Nat)))) [(8, none), (35, some 1)] rfl (by kernel_rfl) (op_yes (reads := [(8, none)]) 10 35 1 true rfl rfl rfl (op_out 8 (.int .u64 ((rd l).1 : Nat)) rfl (.inl rfl) rfl)) ?_
  refine LinR.step (s := (.val (.bool true))) [(36, some 1), (37, some 0), (35, some 2)] rfl (by kernel_rfl) (op_yes (reads := [(36, some 1), (37, some 0)]) 10 35 2 true rfl rfl rfl (op_runs rfl fun σ w' hx hg => ⟨(.bool true), by have h36 : σ.tmps.getD 36 undef = .int .u64 ((rd l).1 : Nat) := hg.1; have h37 : σ.tmps.getD 37 undef = .int .u64 ((rd l).1 : Nat) := hg.2.1; unfold Runs execOp; simp [Act.eval, h36, h37, go_sem], rfl⟩)) ?_
  refine LinR.step (s := (.val (.bool true))) [(35, some 3), (38, some 0)] rfl (by kernel_rfl) (op_runs rfl fun σ w' hx hg => ⟨(.bool true), runs_pick_t (ρ := σ.eval) (w := w') (.tmp 35) (.tmp 38) (.const (.bool false)) rfl hg.1 hg.2.1, rfl⟩) ?_
  refine LinR.step (s := (.val (.bool true))) [(39, some 0)] rfl (by kernel_rfl) (op_copy 39 0 (.val (.bool true)) rfl (.inl rfl) rfl) ?_
  refine LinR.step (s := (.val (v3))) [(6, none), (40, some 0)] rfl (by kernel_rfl) (op_yes (reads := [(6, none)]) 15 40 0 true rfl rfl rfl (op_out 6 (v3) rfl (.inl rfl) rfl)) ?_
  refine LinR.step (s := (.val (.string (strN (rdRest l))))) [(41, some 0), (40, some 1)] rfl (by kernel_rfl) (op_yes (reads := [(41, some 0)]) 15 40 1 true rfl rfl rfl (op_runs rfl fun σ w' hx hg => ⟨_, runs_str (ρ := σ.eval) (w := w') (.tmp 41) rfl (hg.1) (K2.ext hx), rfl⟩)) ?_
  refine LinR.step (s := (.val (v5))) [(9, none), (40, some 2)] rfl (by kernel_rfl) (op_yes (reads := [(9, none)]) 15 40 2 true rfl rfl rfl (op_out 9 (v5) rfl (.inl rfl) rfl)) ?_
  refine LinR.step (s := (.val (.string (strN (rdRest l))))) [(43, some 0), (40, some 3)] rfl (by kernel_rfl) (op_yes (reads := [(43, some 0)]) 15 40 3 true rfl rfl rfl (op_runs rfl fun σ w' hx hg => ⟨_, runs_str (ρ := σ.eval) (w := w') (.tmp 43) rfl (hg.1) (K3.ext hx), rfl⟩)) ?_
  refine LinR.step (s := (.val (.bool true))) [(42, some 2), (44, some 0), (40, some 4)] rfl (by kernel_rfl) (op_yes (reads := [(42, some 2), (44, some 0)]) 15 40 4 true rfl rfl rfl (op_runs rfl fun σ w' hx hg => ⟨(.bool true), by have h42 : σ.tmps.getD 42 undef = .string (strN (rdRest l)) := hg.1; have h44 : σ.tmps.getD 44 undef = .string (strN (rdRest l)) := hg.2.1; unfold Runs execOp; simp [Act.eval, h42, h44, go_sem], rfl⟩)) ?_
  refine LinR.step (s := (.val (.bool true))) [(40, some 5), (45, some 0)] rfl (by kernel_rfl) (op_runs rfl fun σ w' hx hg => ⟨(.bool true), runs_pick_t (ρ := σ.eval) (w := w') (.tmp 40) (.tmp 45) (.const (.bool false)) rfl hg.1 hg.2.1, rfl⟩) ?_
  refine LinR.step (s := (.val (.bool true))) [(46, some 0)] rfl (by kernel_rfl) (op_copy 46 0 (.val (.bool true)) rfl (.inl rfl) rfl) ?_
  refine LinR.step (s := (.val (.int .i64 (rdErr l : Nat)))) [(7, none), (47, some 0)] rfl (by kernel_rfl) (op_yes (reads := [(7, none)]) 22 47 0 true rfl rfl rfl (op_out 7 (.int .i64 (rdErr l : Nat)) rfl (.inl rfl) rfl)) ?_
  refine LinR.step (s := (.val (.int .i64 (rdErr l : Nat)))) [(10, none), (47, some 1)] rfl (by kernel_rfl) (op_yes (reads := [(10, none)]) 22 47 1 true rfl rfl rfl (op_out 10 (.int .i64 (rdErr l : Nat)) rfl (.inl rfl) rfl)) ?_
  refine LinR.step (s := (.val (.bool true))) [(48, some 1), (49, some 0), (47, some 2)] rfl (by kernel_rfl) (op_yes (reads := [(48, some 1), (49, some 0)]) 22 47 2 true rfl rfl rfl (op_runs rfl fun σ w' hx hg => ⟨(.bool true), by have h48 : σ.tmps.getD 48 undef = .int .i64 (rdErr l : Nat) := hg.1; have h49 : σ.tmps.getD 49 undef = .int .i64 (rdErr l : Nat) := hg.2.1; unfold Runs execOp; simp [Act.eval, h48, h49, go_sem], rfl⟩)) ?_
  refine LinR.step (s := (.val (.bool true))) [(47, some 3), (50, some 0)] rfl (by kernel_rfl) (op_runs rfl fun σ w' hx hg => ⟨(.bool true), runs_pick_t (ρ := σ.eval) (w := w') (.tmp 47) (.tmp 50) (.const (.bool false)) rfl hg.1 hg.2.1, rfl⟩) ?_
  refine LinR.step (s := (.val (.bool true))) [(51, some 0)] rfl (by kernel_rfl) (op_copy 51 0 (.val (.bool true)) rfl (.inr rfl) rfl) ?_
  intro wN hxN
  simp only [Fin', Sp.ptr, List.reverse_cons, List.reverse_nil, List.nil_append, List.cons_append]
  intro q28 hq28 q31 hq31
  simp only [Act.put, List.setIfInBounds_toArray, List.set_cons_zero, List.set_cons_succ]
  go_wp2
  go_ret
  exact Keep.intro ⟨rfl, hX.trans hxN⟩

set_option maxRecDepth 100000 in
theorem nums_lifted (os : Os) (started : os.Started) (H : Type) (enc : TypeId × Value → H) :
    ReturnsInHanded {} Try.checked os 4 .any (Rows.wireNumsSpec.pre6 enc Try.prog Try.f4 Rows.wireNumsRow.domain false) (Rows.wireNumsSpec.post enc Try.prog Try.f4 false true false false) := by
  refine law_lifted (s := Rows.wireNumsSpec) (conds := Rows.wireNumsRow.domain) Try.func4 (by kernel_rfl) rfl (fun H ds h => by
      rw [show Try.f4.params.size = 2 from rfl] at h
      match ds, h with
      | [d0, d1], _ => rfl) rfl rfl (by decide +kernel) os started H enc
    (ChangeSpec.witness6 (enc := enc) (C := Try.checked) false ⟨#[], #[.int .u64 0, .slice none 0 0], []⟩ 8 (by kernel_rfl) (by kernel_rfl) (by kernel_rfl) (by kernel_rfl)) ?_
  intro W base args ds p hval hA hsz _
  have hp : Try.f4.params.toList = [22, 23] := rfl
  rw [hp] at hA hsz
  obtain ⟨v0, v1, d0, d1, p0, p1, rfl, rfl, rfl, h0, h1⟩ := trodAll_two hA
  obtain ⟨a0, rfl, b0⟩ := arg_u64 (hval 0 22 v0 rfl rfl) h0
  obtain ⟨l1, a1, b1, c1⟩ := arg_bytes hsz (j := 1) rfl rfl (hval 1 23 v1 rfl rfl) h1
  exact nums_law a0 v1 l1 W b0 a1 b1 (by omega)

theorem nums_holds : Rows.WireNumsSaid :=
  OpenClaim.holds_of_wide 4 Try.f4 rfl rfl rfl rfl rfl rfl rfl ⟨rfl, rfl, rfl, rfl, rfl⟩ rfl rfl rfl rfl rfl (by kernel_rfl) Try.func4 (by kernel_rfl)
    (of_decide_eq_true (by kernel_rfl)) (by unfold Func.isWrapper; first | (rw [if_pos (by decide +kernel)]; kernel_rfl) | (rw [if_neg (by decide +kernel)]; exact ⟨rfl, rfl⟩))
    (fun os started H enc _ => nums_lifted os started H enc)
#print axioms nums_holds

end Go.Proofs.Ytjabedimhdhiiaa
