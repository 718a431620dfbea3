/- The statement WireLists: any numbers as bytes, and so many numbers of any bytes. No condition. -/
import Derived.Test.YtjabedimhdhiiaaRNums
import Derived.Test.YtjabedimhdhiiaaSame
import Derived.Test.YtjabedimhdhiiaaArgI
import Derived.Test.YtjabedimhdhiiaaAlive
namespace Go.Proofs.Ytjabedimhdhiiaa
open Go.RowKit Go.ChangeShapes Go.WideShapes Go.ChangeAt

theorem aliveI (w : World) : Calls Try.prog 12 #[] w fun e w' => ∃ v', e = .returned v' ∧ Ext w w' ∧ Sp.p (.val (.bool true)) v' w' :=
  (alive_any w).mono fun _ _ ⟨he, hx⟩ => ⟨_, he, hx, rfl⟩
theorem sameI (va vb : Value) (l : List Int) (w : World) (ha : Ints w va l) (hb : Ints w vb l) : Calls Try.prog 20 #[va, vb] w fun e w' => ∃ v', e = .returned v' ∧ Ext w w' ∧ Sp.p (.val (.bool true)) v' w' :=
  (SameInts_any va vb l w ha hb).mono fun _ _ ⟨he, hx⟩ => ⟨_, he, hx, rfl⟩

set_option maxRecDepth 100000 in
set_option maxHeartbeats 2000000 in
theorem lists_law (va vb : Value) (la : List Int) (lb : List Nat) (c : Int) (W : World) (ha : Ints W va la) (hI : I64s la) (hla : la.length * 8 ≤ 140737488355328) (hb : Byt W vb lb) (hlb : ∀ x ∈ lb, x < 256) (hnb : lb.length ≤ 140737488355328) :
    Calls Try.prog 5 #[va, vb, .int .i64 c] W fun e w' => e = .returned (.bool true) ∧ Ext W w' := by
  refine calls_keep ?_
  have hba : (([] : List Int).length + la.length) * 8 ≤ 140737488355328 := by simpa using hla
  have hbb : ([] : List Nat).length + lb.length ≤ 140737488355328 := by simpa using hnb
  have HI := hide_ hI
  clear hI
  go_enter Try.func5, Try.ntmps5
  go_upto_region 5 with (first
    | (at_builtin; refine appi (.tmp 18) (.tmp 19) rfl rfl rfl rfl int_empty (ha.ext ((Ext.refl _).alloc _)) hba (by simp) ?_; intro v2 w2 ho2 hb2 hg2 _; have H3 := ho2.ints; have hx2 := ext_alloc_below hb2; clear ho2 hb2 hg2)
    | (go_at_call 16; refine (Nums_any v2 la _ HI.out H3).mono ?_; rintro e w3 ⟨v3, rfl, ho3, hx3⟩; have H4 := ho3.byt; have H5 := (ha.ext hx2).ext hx3; have H6 := (hb.ext hx2).ext hx3; clear ho3 H3)
    | (go_at_call 17; refine (refNums_any va la _ HI.out H5).mono ?_; rintro e w4 ⟨v4, rfl, ho4, hx4⟩; have H7 := ho4.byt; have H8 := H4.ext hx4; have H9 := H6.ext hx4; clear ho4 H4 H5 H6)
    | (at_builtin; refine appb (.tmp 30) (.tmp 31) rfl rfl rfl rfl own_empty (H9.ext ((Ext.refl _).alloc _)) hbb (by simp) ?_; intro v5 w5 ho5 hb5 hg5; have I1 := ho5.byt; have hx5 := ext_alloc_below hb5; clear ho5 hb5 hg5)
    | (go_at_call 18; refine (ReadNums_any v5 lb c _ hlb I1 (by omega)).mono ?_; rintro e w6 ⟨v6, v7, rfl, I2, I3, hx6⟩; have I4 := (H9.ext hx5).ext hx6; clear I1)
    | (go_at_call 19; refine (refReadNums_any vb lb c _ hlb I4 hnb).mono ?_; rintro e w7 ⟨v8, v9, rfl, K14, K15, hx7⟩; have K7 := ((H8.ext hx5).ext hx6).ext hx7; have K9 := ((H7.ext hx5).ext hx6).ext hx7; have K11 := I2.ext hx7; have K12 := I3.ext hx7; have hX := ((((hx2.trans hx3).trans hx4).trans hx5).trans hx6).trans hx7; clear H7 H8 H9 I2 I3 I4))
  refine wp_region_seqR (by kernel_rfl) ?_
  refine LinR.step (s := (.val (.bool true))) [] rfl (by kernel_rfl) (op_calls 12 #[] #[] (fun σ => #[]) rfl rfl (fun _ _ => rfl) fun σ w' hx hg => ⟨by simp, aliveI w'⟩) ?_
  refine LinR.step (s := (.val (.bool true))) [(45, some 0)] rfl (by kernel_rfl) (op_copy 45 0 (.val (.bool true)) rfl (.inl rfl) rfl) ?_
  refine LinR.step (s := (.val (v3))) [(7, none), (46, some 0)] rfl (by kernel_rfl) (op_yes (reads := [(7, none)]) 1 46 0 true rfl rfl rfl (op_out 7 (v3) rfl (.inl rfl) rfl)) ?_
  refine LinR.step (s := (.val (.string (strN (nuB la))))) [(47, some 0), (46, some 1)] rfl (by kernel_rfl) (op_yes (reads := [(47, some 0)]) 1 46 1 true rfl rfl rfl (op_runs rfl fun σ w' hx hg => ⟨_, runs_str (ρ := σ.eval) (w := w') (.tmp 47) rfl (hg.1) (K7.ext hx), rfl⟩)) ?_
  refine LinR.step (s := (.val (v4))) [(9, none), (46, some 2)] rfl (by kernel_rfl) (op_yes (reads := [(9, none)]) 1 46 2 true rfl rfl rfl (op_out 9 (v4) rfl (.inl rfl) rfl)) ?_
  refine LinR.step (s := (.val (.string (strN (nuB la))))) [(49, some 0), (46, some 3)] rfl (by kernel_rfl) (op_yes (reads := [(49, some 0)]) 1 46 3 true rfl rfl rfl (op_runs rfl fun σ w' hx hg => ⟨_, runs_str (ρ := σ.eval) (w := w') (.tmp 49) rfl (hg.1) (K9.ext hx), rfl⟩)) ?_
  refine LinR.step (s := (.val (.bool true))) [(48, some 2), (50, some 0), (46, some 4)] rfl (by kernel_rfl) (op_yes (reads := [(48, some 2), (50, some 0)]) 1 46 4 true rfl rfl rfl (op_runs rfl fun σ w' hx hg => ⟨(.bool true), by have h48 : σ.tmps.getD 48 undef = .string (strN (nuB la)) := hg.1; have h50 : σ.tmps.getD 50 undef = .string (strN (nuB la)) := hg.2.1; unfold Runs execOp; simp [Act.eval, h48, h50, go_sem], rfl⟩)) ?_
  refine LinR.step (s := (.val (.bool true))) [(46, some 5), (51, some 0)] rfl (by kernel_rfl) (op_runs rfl fun σ w' hx hg => ⟨(.bool true), runs_pick_t (ρ := σ.eval) (w := w') (.tmp 46) (.tmp 51) (.const (.bool false)) rfl hg.1 hg.2.1, rfl⟩) ?_
  refine LinR.step (s := (.val (.bool true))) [(52, some 0)] rfl (by kernel_rfl) (op_copy 52 0 (.val (.bool true)) rfl (.inl rfl) rfl) ?_
  refine LinR.step (s := (.val (.int .i64 (nuErr la : Nat)))) [(8, none), (53, some 0)] rfl (by kernel_rfl) (op_yes (reads := [(8, none)]) 8 53 0 true rfl rfl rfl (op_out 8 (.int .i64 (nuErr la : Nat)) rfl (.inl rfl) rfl)) ?_
  refine LinR.step (s := (.val (.int .i64 (nuErr la : Nat)))) [(10, none), (53, some 1)] rfl (by kernel_rfl) (op_yes (reads := [(10, none)]) 8 53 1 true rfl rfl rfl (op_out 10 (.int .i64 (nuErr la : Nat)) rfl (.inl rfl) rfl)) ?_
  refine LinR.step (s := (.val (.bool true))) [(54, some 1), (55, some 0), (53, some 2)] rfl (by kernel_rfl) (op_yes (reads := [(54, some 1), (55, some 0)]) 8 53 2 true rfl rfl rfl (op_runs rfl fun σ w' hx hg => ⟨(.bool true), by have h54 : σ.tmps.getD 54 undef = .int .i64 (nuErr la : Nat) := hg.1; have h55 : σ.tmps.getD 55 undef = .int .i64 (nuErr la : Nat) := hg.2.1; unfold Runs execOp; simp [Act.eval, h54, h55, go_sem], rfl⟩)) ?_
  refine LinR.step (s := (.val (.bool true))) [(53, some 3), (56, some 0)] rfl (by kernel_rfl) (op_runs rfl fun σ w' hx hg => ⟨(.bool true), runs_pick_t (ρ := σ.eval) (w := w') (.tmp 53) (.tmp 56) (.const (.bool false)) rfl hg.1 hg.2.1, rfl⟩) ?_
  refine LinR.step (s := (.val (.bool true))) [(57, some 0)] rfl (by kernel_rfl) (op_copy 57 0 (.val (.bool true)) rfl (.inl rfl) rfl) ?_
  refine LinR.step (s := (.val (v6))) [(11, none), (58, some 0)] rfl (by kernel_rfl) (op_yes (reads := [(11, none)]) 13 58 0 true rfl rfl rfl (op_out 11 (v6) rfl (.inl rfl) rfl)) ?_
  refine LinR.step (s := (.val (v8))) [(14, none), (58, some 1)] rfl (by kernel_rfl) (op_yes (reads := [(14, none)]) 13 58 1 true rfl rfl rfl (op_out 14 (v8) rfl (.inl rfl) rfl)) ?_
  refine LinR.step (s := (.val (.bool true))) [(59, some 1), (60, some 0), (58, some 2)] rfl (by kernel_rfl) (op_yes (reads := [(59, some 1), (60, some 0)]) 13 58 2 true rfl rfl rfl (op_calls 20 #[(.tmp 59), (.tmp 60)] #[32, 32] (fun σ => #[v6, v8]) rfl rfl (fun _ _ => rfl) fun σ w' hx hg => ⟨by have h59 : σ.tmps.getD 59 undef = v6 := hg.1; have h60 : σ.tmps.getD 60 undef = v8 := hg.2.1; simp only [List.map_toArray, List.map_cons, List.map_nil, Act.eval]; rw [h59, h60], sameI v6 v8 (rnV (rnO c lb)) w' (K11.ext hx) (K14.ext hx)⟩)) ?_
  refine LinR.step (s := (.val (.bool true))) [(58, some 3), (61, some 0)] rfl (by kernel_rfl) (op_runs rfl fun σ w' hx hg => ⟨(.bool true), runs_pick_t (ρ := σ.eval) (w := w') (.tmp 58) (.tmp 61) (.const (.bool false)) rfl hg.1 hg.2.1, rfl⟩) ?_
  refine LinR.step (s := (.val (.bool true))) [(62, some 0)] rfl (by kernel_rfl) (op_copy 62 0 (.val (.bool true)) rfl (.inl rfl) rfl) ?_
  refine LinR.step (s := (.val (v7))) [(12, none), (63, some 0)] rfl (by kernel_rfl) (op_yes (reads := [(12, none)]) 18 63 0 true rfl rfl rfl (op_out 12 (v7) rfl (.inl rfl) rfl)) ?_
  refine LinR.step (s := (.val (.string (strN (rnR (rnO c lb)))))) [(64, some 0), (63, some 1)] rfl (by kernel_rfl) (op_yes (reads := [(64, some 0)]) 18 63 1 true rfl rfl rfl (op_runs rfl fun σ w' hx hg => ⟨_, runs_str (ρ := σ.eval) (w := w') (.tmp 64) rfl (hg.1) (K12.ext hx), rfl⟩)) ?_
  refine LinR.step (s := (.val (v9))) [(15, none), (63, some 2)] rfl (by kernel_rfl) (op_yes (reads := [(15, none)]) 18 63 2 true rfl rfl rfl (op_out 15 (v9) rfl (.inl rfl) rfl)) ?_
  refine LinR.step (s := (.val (.string (strN (rnR (rnO c lb)))))) [(66, some 0), (63, some 3)] rfl (by kernel_rfl) (op_yes (reads := [(66, some 0)]) 18 63 3 true rfl rfl rfl (op_runs rfl fun σ w' hx hg => ⟨_, runs_str (ρ := σ.eval) (w := w') (.tmp 66) rfl (hg.1) (K15.ext hx), rfl⟩)) ?_
  refine LinR.step (s := (.val (.bool true))) [(65, some 2), (67, some 0), (63, some 4)] rfl (by kernel_rfl) (op_yes (reads := [(65, some 2), (67, some 0)]) 18 63 4 true rfl rfl rfl (op_runs rfl fun σ w' hx hg => ⟨(.bool true), by have h65 : σ.tmps.getD 65 undef = .string (strN (rnR (rnO c lb))) := hg.1; have h67 : σ.tmps.getD 67 undef = .string (strN (rnR (rnO c lb))) := hg.2.1; unfold Runs execOp; simp [Act.eval, h65, h67, go_sem], rfl⟩)) ?_
  refine LinR.step (s := (.val (.bool true))) [(63, some 5), (68, some 0)] rfl (by kernel_rfl) (op_runs rfl fun σ w' hx hg => ⟨(.bool true), runs_pick_t (ρ := σ.eval) (w := w') (.tmp 63) (.tmp 68) (.const (.bool false)) rfl hg.1 hg.2.1, rfl⟩) ?_
  refine LinR.step (s := (.val (.bool true))) [(69, some 0)] rfl (by kernel_rfl) (op_copy 69 0 (.val (.bool true)) rfl (.inl rfl) rfl) ?_
  refine LinR.step (s := (.val (.int .i64 (rnE (rnO c lb) : Nat)))) [(13, none), (70, some 0)] rfl (by kernel_rfl) (op_yes (reads := [(13, none)]) 25 70 0 true rfl rfl rfl (op_out 13 (.int .i64 (rnE (rnO c lb) : Nat)) rfl (.inl rfl) rfl)) ?_
  refine LinR.step (s := (.val (.int .i64 (rnE (rnO c lb) : Nat)))) [(16, none), (70, some 1)] rfl (by kernel_rfl) (op_yes (reads := [(16, none)]) 25 70 1 true rfl rfl rfl (op_out 16 (.int .i64 (rnE (rnO c lb) : Nat)) rfl (.inl rfl) rfl)) ?_
  refine LinR.step (s := (.val (.bool true))) [(71, some 1), (72, some 0), (70, some 2)] rfl (by kernel_rfl) (op_yes (reads := [(71, some 1), (72, some 0)]) 25 70 2 true rfl rfl rfl (op_runs rfl fun σ w' hx hg => ⟨(.bool true), by have h71 : σ.tmps.getD 71 undef = .int .i64 (rnE (rnO c lb) : Nat) := hg.1; have h72 : σ.tmps.getD 72 undef = .int .i64 (rnE (rnO c lb) : Nat) := hg.2.1; unfold Runs execOp; simp [Act.eval, h71, h72, go_sem], rfl⟩)) ?_
  refine LinR.step (s := (.val (.bool true))) [(70, some 3), (73, some 0)] rfl (by kernel_rfl) (op_runs rfl fun σ w' hx hg => ⟨(.bool true), runs_pick_t (ρ := σ.eval) (w := w') (.tmp 70) (.tmp 73) (.const (.bool false)) rfl hg.1 hg.2.1, rfl⟩) ?_
  refine LinR.step (s := (.val (.bool true))) [(74, some 0)] rfl (by kernel_rfl) (op_copy 74 0 (.val (.bool true)) rfl (.inr rfl) rfl) ?_
  intro wN hxN
  simp only [Fin', Sp.ptr, List.reverse_cons, List.reverse_nil, List.nil_append, List.cons_append]
  simp only [Act.put, List.setIfInBounds_toArray, List.set_cons_zero, List.set_cons_succ]
  go_wp2
  go_ret
  exact Keep.intro ⟨rfl, hX.trans hxN⟩

set_option maxRecDepth 100000 in
theorem lists_lifted (os : Os) (started : os.Started) (H : Type) (enc : TypeId × Value → H) :
    ReturnsInHanded {} Try.checked os 5 .any (Rows.wireListsSpec.pre6 enc Try.prog Try.f5 Rows.wireListsRow.domain false) (Rows.wireListsSpec.post enc Try.prog Try.f5 false true false false) := by
  refine law_lifted (s := Rows.wireListsSpec) (conds := Rows.wireListsRow.domain) Try.func5 (by kernel_rfl) rfl (fun H ds h => by
      rw [show Try.f5.params.size = 3 from rfl] at h
      match ds, h with
      | [d0, d1, d2], _ => rfl) rfl rfl (by decide +kernel) os started H enc
    (ChangeSpec.witness6 (enc := enc) (C := Try.checked) false ⟨#[], #[.slice none 0 0, .slice none 0 0, .int .i64 0], []⟩ 8 (by kernel_rfl) (by kernel_rfl) (by kernel_rfl) (by kernel_rfl)) ?_
  intro W base args ds p hval hA hsz _
  have hp : Try.f5.params.toList = [32, 23, 3] := rfl
  rw [hp] at hA hsz
  obtain ⟨v0, v1, v2, d0, d1, d2, p0, p1, p2, rfl, rfl, rfl, h0, h1, h2⟩ := trodAll_three hA
  obtain ⟨l0, a0, b0, c0⟩ := arg_ints hsz (j := 0) rfl rfl (hval 0 32 v0 rfl rfl) h0
  obtain ⟨l1, a1, b1, c1⟩ := arg_bytes hsz (j := 1) rfl rfl (hval 1 23 v1 rfl rfl) h1
  obtain ⟨a2, rfl, b2, c2⟩ := arg_int (hval 2 3 v2 rfl rfl) h2
  exact lists_law v0 v1 l0 l1 a2 W a0 b0 (by omega) a1 b1 (by omega)

theorem lists_holds : Rows.WireListsSaid :=
  OpenClaim.holds_of_wide 5 Try.f5 rfl rfl rfl rfl rfl rfl rfl ⟨rfl, rfl, rfl, rfl, rfl⟩ rfl rfl rfl rfl rfl (by kernel_rfl) Try.func5 (by kernel_rfl)
    (of_decide_eq_true (by kernel_rfl)) (by unfold Func.isWrapper; first | (rw [if_pos (by decide +kernel)]; kernel_rfl) | (rw [if_neg (by decide +kernel)]; exact ⟨rfl, rfl⟩))
    (fun os started H enc _ => lists_lifted os started H enc)
#print axioms lists_holds

end Go.Proofs.Ytjabedimhdhiiaa
