/- The chapter's examples hold: wireAlive answers true; so the statement WireNames. -/
import Derived.Test.YtjabedimhdhiiaaText
import Derived.Deep.Cut
import Derived.Lib.SlBytesConst
namespace Go.Proofs.Ytjabedimhdhiiaa
open Go.RowKit

theorem rd_ex : rd [172, 2, 9] = (300, 2) := by decide
theorem numL_300 : numL 300 = [172, 2] := by rw [numL_big (by omega), numL_small (by omega)]
theorem txL_hi : txL [104, 105] = [2, 104, 105] := by rw [txL, if_neg (by simp), numL_small (by simp)]; rfl

theorem num300 (w : World) : Calls Try.prog 14 #[.int .u64 300] w fun e w' => ∃ v', e = .returned v' ∧ Ext w w' ∧ Sp.p (.sl (u8s [172, 2])) v' w' := by
  have h := Num_any 300 w (by unfold W64; omega)
  rw [numL_300] at h
  exact h.mono fun _ _ ⟨v', he, ho, hx⟩ => ⟨v', he, hx, ho.byt⟩

theorem strN_300 : strN [172, 2] = { data := #[172, 2] } := rfl
theorem strN_hi : strN [2, 104, 105] = { data := #[2, 104, 105] } := rfl

set_option maxRecDepth 100000 in
set_option maxHeartbeats 400000 in
theorem alive_any (w : World) : Calls Try.prog 12 #[] w fun e w' => e = .returned (.bool true) ∧ Ext w w' := by
  refine calls_keep ?_
  have kc := fun (w : World) (C : Array Value) (n c : Nat) => Lib.run_convert_bytes_const (P := Try.prog) w 23 5 C n c Try.underlying23 Try.underlying5
  go_enter Try.func12, Try.ntmps12
  go_upto_region 3 with (first
    | (go_at_call 11; refine (ReadNum_any _ [172, 2, 9] _ (by decide) (byt_lit [172, 2, 9] (by simp) rfl) (by simp)).mono ?_; rintro e w2 ⟨v2, rfl, ho2, hx2⟩)
    | (go_at_call 21; refine (Text_any _ [104, 105] _ (byt_lit [104, 105] (by simp) rfl)).mono ?_; rintro e w1 ⟨v1, rfl, ho1, hx1⟩))
  have e1 : txErr [104, 105] = 0 := by decide
  have e2 : (rd [172, 2, 9]).1 = 300 := by decide
  have e3 : rdErr [172, 2, 9] = 0 := by decide
  have e4 : rdRest [172, 2, 9] = [9] := by decide
  rw [e4] at ho2
  rw [txL_hi] at ho1
  have H1 : Byt w2 v1 [2, 104, 105] := ho1.byt.ext (((Ext.refl _).alloc _).trans hx2)
  have H2 : Byt w2 v2 [9] := ho2.byt
  have hW : Ext w w2 := (((Ext.refl w).alloc _).trans hx1).trans (((Ext.refl _).alloc _).trans hx2)
  rw [e1, e2, e3]
  refine wp_region_seqR (by kernel_rfl) ?_
  refine LinR.step (s := (.sl (u8s ([172, 2])))) [] rfl (by kernel_rfl) (op_calls 14 #[(.const (.int .u64 300))] #[22] (fun σ => #[.int .u64 300]) rfl rfl (fun _ _ => rfl) fun σ w' hx hg => ⟨by simp only [List.map_toArray, List.map_cons, List.map_nil, Act.eval], num300 w'⟩) ?_
  refine LinR.step (s := (.val (.string (strN ([172, 2]))))) [(18, some 0)] rfl (by kernel_rfl) (op_runs rfl fun σ w' hx hg => ⟨_, runs_str (ρ := σ.eval) (w := w') (.tmp 18) rfl (rfl) hg.1, rfl⟩) ?_
  refine LinR.step (s := (.val (.bool true))) [(19, some 0)] rfl (by kernel_rfl) (op_runs rfl fun σ w' hx hg => ⟨(.bool true), by have h19 : σ.tmps.getD 19 undef = .string (strN ([172, 2])) := hg.1; unfold Runs execOp; simp [Act.eval, h19, go_sem, strN_300], rfl⟩) ?_
  refine LinR.step (s := (.val (.bool true))) [(20, some 0)] rfl (by kernel_rfl) (op_copy 20 0 (.val (.bool true)) rfl (.inl rfl) rfl) ?_
  refine LinR.step (s := (.val (.int .i64 0))) [(2, none), (21, some 0)] rfl (by kernel_rfl) (op_yes (reads := [(2, none)]) 3 21 0 true rfl rfl rfl (op_out 2 (.int .i64 0) rfl (.inl rfl) rfl)) ?_
  refine LinR.step (s := (.val (.bool true))) [(22, some 0), (21, some 1)] rfl (by kernel_rfl) (op_yes (reads := [(22, some 0)]) 3 21 1 true rfl rfl rfl (op_runs rfl fun σ w' hx hg => ⟨(.bool true), by have h22 : σ.tmps.getD 22 undef = .int .i64 0 := hg.1; unfold Runs execOp; simp [Act.eval, h22, go_sem], rfl⟩)) ?_
  refine LinR.step (s := (.val (.bool true))) [(21, some 2), (23, some 0)] rfl (by kernel_rfl) (op_runs rfl fun σ w' hx hg => ⟨(.bool true), runs_pick_t (ρ := σ.eval) (w := w') (.tmp 21) (.tmp 23) (.const (.bool false)) rfl hg.1 hg.2.1, rfl⟩) ?_
  refine LinR.step (s := (.val (.bool true))) [(24, some 0)] rfl (by kernel_rfl) (op_copy 24 0 (.val (.bool true)) rfl (.inl rfl) rfl) ?_
  refine LinR.step (s := (.val (v1))) [(1, none), (25, some 0)] rfl (by kernel_rfl) (op_yes (reads := [(1, none)]) 7 25 0 true rfl rfl rfl (op_out 1 (v1) rfl (.inl rfl) rfl)) ?_
  refine LinR.step (s := (.val (.string (strN ([2, 104, 105]))))) [(26, some 0), (25, some 1)] rfl (by kernel_rfl) (op_yes (reads := [(26, some 0)]) 7 25 1 true rfl rfl rfl (op_runs rfl fun σ w' hx hg => ⟨_, runs_str (ρ := σ.eval) (w := w') (.tmp 26) rfl (hg.1) (H1.ext hx), rfl⟩)) ?_
  refine LinR.step (s := (.val (.bool true))) [(27, some 0), (25, some 2)] rfl (by kernel_rfl) (op_yes (reads := [(27, some 0)]) 7 25 2 true rfl rfl rfl (op_runs rfl fun σ w' hx hg => ⟨(.bool true), by have h27 : σ.tmps.getD 27 undef = .string (strN ([2, 104, 105])) := hg.1; unfold Runs execOp; simp [Act.eval, h27, go_sem, strN_hi], rfl⟩)) ?_
  refine LinR.step (s := (.val (.bool true))) [(25, some 3), (28, some 0)] rfl (by kernel_rfl) (op_runs rfl fun σ w' hx hg => ⟨(.bool true), runs_pick_t (ρ := σ.eval) (w := w') (.tmp 25) (.tmp 28) (.const (.bool false)) rfl hg.1 hg.2.1, rfl⟩) ?_
  refine LinR.step (s := (.val (.bool true))) [(29, some 0)] rfl (by kernel_rfl) (op_copy 29 0 (.val (.bool true)) rfl (.inl rfl) rfl) ?_
  refine LinR.step (s := (.val (.int .i64 0))) [(5, none), (30, some 0)] rfl (by kernel_rfl) (op_yes (reads := [(5, none)]) 12 30 0 true rfl rfl rfl (op_out 5 (.int .i64 0) rfl (.inl rfl) rfl)) ?_
  refine LinR.step (s := (.val (.bool true))) [(31, some 0), (30, some 1)] rfl (by kernel_rfl) (op_yes (reads := [(31, some 0)]) 12 30 1 true rfl rfl rfl (op_runs rfl fun σ w' hx hg => ⟨(.bool true), by have h31 : σ.tmps.getD 31 undef = .int .i64 0 := hg.1; unfold Runs execOp; simp [Act.eval, h31, go_sem], rfl⟩)) ?_
  refine LinR.step (s := (.val (.bool true))) [(30, some 2), (32, some 0)] rfl (by kernel_rfl) (op_runs rfl fun σ w' hx hg => ⟨(.bool true), runs_pick_t (ρ := σ.eval) (w := w') (.tmp 30) (.tmp 32) (.const (.bool false)) rfl hg.1 hg.2.1, rfl⟩) ?_
  refine LinR.step (s := (.val (.bool true))) [(33, some 0)] rfl (by kernel_rfl) (op_copy 33 0 (.val (.bool true)) rfl (.inl rfl) rfl) ?_
  refine LinR.step (s := (.val (.int .u64 300))) [(3, none), (34, some 0)] rfl (by kernel_rfl) (op_yes (reads := [(3, none)]) 16 34 0 true rfl rfl rfl (op_out 3 (.int .u64 300) rfl (.inl rfl) rfl)) ?_
  refine LinR.step (s := (.val (.bool true))) [(35, some 0), (34, some 1)] rfl (by kernel_rfl) (op_yes (reads := [(35, some 0)]) 16 34 1 true rfl rfl rfl (op_runs rfl fun σ w' hx hg => ⟨(.bool true), by have h35 : σ.tmps.getD 35 undef = .int .u64 300 := hg.1; unfold Runs execOp; simp [Act.eval, h35, go_sem], rfl⟩)) ?_
  refine LinR.step (s := (.val (.bool true))) [(34, some 2), (36, some 0)] rfl (by kernel_rfl) (op_runs rfl fun σ w' hx hg => ⟨(.bool true), runs_pick_t (ρ := σ.eval) (w := w') (.tmp 34) (.tmp 36) (.const (.bool false)) rfl hg.1 hg.2.1, rfl⟩) ?_
  refine LinR.step (s := (.val (.bool true))) [(37, some 0)] rfl (by kernel_rfl) (op_copy 37 0 (.val (.bool true)) rfl (.inl rfl) rfl) ?_
  refine LinR.step (s := (.val (v2))) [(4, none), (38, some 0)] rfl (by kernel_rfl) (op_yes (reads := [(4, none)]) 20 38 0 true rfl rfl rfl (op_out 4 (v2) rfl (.inl rfl) rfl)) ?_
  refine LinR.step (s := (.val (.int .i64 ([9]).length))) [(39, some 0), (38, some 1)] rfl (by kernel_rfl) (op_yes (reads := [(39, some 0)]) 20 38 1 true rfl rfl rfl (op_runs rfl fun σ w' hx hg => ⟨_, runs_lenb (ρ := σ.eval) (w := w') (.tmp 39) rfl (hg.1) (H2.ext hx), rfl⟩)) ?_
  refine LinR.step (s := (.val (.bool true))) [(40, some 0), (38, some 2)] rfl (by kernel_rfl) (op_yes (reads := [(40, some 0)]) 20 38 2 true rfl rfl rfl (op_runs rfl fun σ w' hx hg => ⟨(.bool true), by have h40 : σ.tmps.getD 40 undef = .int .i64 ([9]).length := hg.1; unfold Runs execOp; simp [Act.eval, h40, go_sem], rfl⟩)) ?_
  refine LinR.step (s := (.val (.bool true))) [(38, some 3), (41, some 0)] rfl (by kernel_rfl) (op_runs rfl fun σ w' hx hg => ⟨(.bool true), runs_pick_t (ρ := σ.eval) (w := w') (.tmp 38) (.tmp 41) (.const (.bool false)) rfl hg.1 hg.2.1, rfl⟩) ?_
  refine LinR.step (s := (.val (.bool true))) [(42, some 0)] rfl (by kernel_rfl) (op_copy 42 0 (.val (.bool true)) rfl (.inl rfl) rfl) ?_
  refine LinR.step (s := (.val (v2))) [(4, none), (43, some 0)] rfl (by kernel_rfl) (op_yes (reads := [(4, none)]) 25 43 0 true rfl rfl rfl (op_out 4 (v2) rfl (.inl rfl) rfl)) ?_
  refine LinR.step (s := (Sp.ptr (.int .u8 (9 : Nat)))) [(44, some 0), (43, some 1)] rfl (by kernel_rfl) (op_yes (reads := [(44, some 0)]) 25 43 1 true rfl rfl rfl (op_runs rfl fun σ w' hx hg => rptr (ρ := σ.eval) (w := w') (.tmp 44) (.const (.int .i64 0)) rfl (hg.1) (H2.ext hx) 0 rfl (by simp) rfl)) ?_
  refine LinR.step (s := (.val (.int .u8 9))) [(45, some 0), (43, some 2)] rfl (by kernel_rfl) (op_yes (reads := [(45, some 0)]) 25 43 2 true rfl rfl rfl (op_runs rfl fun σ w' hx hg => ⟨_, runs_load (ρ := σ.eval) (w := w') (.tmp 45) rfl Try.underlying5 rfl hg.1, rfl⟩)) ?_
  refine LinR.step (s := (.val (.bool true))) [(46, some 0), (43, some 3)] rfl (by kernel_rfl) (op_yes (reads := [(46, some 0)]) 25 43 3 true rfl rfl rfl (op_runs rfl fun σ w' hx hg => ⟨(.bool true), by have h46 : σ.tmps.getD 46 undef = .int .u8 9 := hg.1; unfold Runs execOp; simp [Act.eval, h46, go_sem], rfl⟩)) ?_
  refine LinR.step (s := (.val (.bool true))) [(43, some 4), (47, some 0)] rfl (by kernel_rfl) (op_runs rfl fun σ w' hx hg => ⟨(.bool true), runs_pick_t (ρ := σ.eval) (w := w') (.tmp 43) (.tmp 47) (.const (.bool false)) rfl hg.1 hg.2.1, rfl⟩) ?_
  refine LinR.step (s := (.val (.bool true))) [(48, some 0)] rfl (by kernel_rfl) (op_copy 48 0 (.val (.bool true)) rfl (.inr rfl) rfl) ?_
  intro wN hxN
  simp only [Fin', Sp.ptr, List.reverse_cons, List.reverse_nil, List.nil_append, List.cons_append]
  intro q18 hq18 q45 hq45
  simp only [Act.put, List.setIfInBounds_toArray, List.set_cons_zero, List.set_cons_succ]
  go_wp2
  go_ret
  exact Keep.intro ⟨rfl, hW.trans hxN⟩
end Go.Proofs.Ytjabedimhdhiiaa
