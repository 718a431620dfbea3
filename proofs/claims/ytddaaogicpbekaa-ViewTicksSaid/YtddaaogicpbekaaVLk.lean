/- The statement ViewTicks: a timer with anything left, behind a tick. No condition. -/
import Derived.Test.YtddaaogicpbekaaVwR
import Derived.Test.YtddaaogicpbekaaVLn
namespace Go.Proofs.Ytddaaogicpbekaa
open Go.RowKit Go.ChangeShapes Go.WideShapes Go.ChangeAt

theorem retV {f : FuncId} {args : Array Value} {w : World} {u : Value} (h : Calls Try.prog f args w fun e w' => e = .returned u ∧ Ext w w') : Calls Try.prog f args w fun e w' => ∃ v', e = .returned v' ∧ Ext w w' ∧ Sp.p (.val u) v' w' := by
  refine h.mono ?_
  rintro e w' ⟨rfl, hx⟩
  exact ⟨_, rfl, hx, rfl⟩
set_option maxRecDepth 100000 in
set_option maxHeartbeats 1600000 in
theorem viewTicks_law (x : Int) (W : World) (hI : -9223372036854775808 ≤ x ∧ x ≤ 9223372036854775807) : Calls Try.prog 6 #[.int .i64 x] W fun e w' => e = .returned (.bool true) ∧ Ext W w' := by
  refine calls_keep ?_
  have hX := Ext.refl W
  have hxI := hide_ hI.2
  obtain ⟨y, hy0⟩ : ∃ y, tck x = y := ⟨_, rfl⟩
  have hy := hide_ hy0
  obtain ⟨q, hq0⟩ : ∃ q, decide (y = 0) = q := ⟨_, rfl⟩
  have hq := hide_ hq0
  have hqb : (y == 0) = q := by rw [← hq0]; by_cases h : y = 0 <;> simp [h]
  have hqb' := hide_ hqb
  clear hy0 hq0 hI
  go_enter Try.func6, Try.ntmps6
  go_wp2_with ((first
    | (go_at_call 14; refine (Tick_any f2 hxI.out).mono ?_; clear f2; rintro e w6 ⟨rfl, hm, f2⟩; rw [hy.out] at f2 ⊢; rw [hq.out]; replace hX := hm.after hX (fun i hi => by subst hi; exact hgW.out); clear hm)
    | ((with_reducible refine at_sbuild ?_); refine w_sbuild stTim [.int .i64 x] rfl rfl rfl (by intro p hp; simp at hp; rcases hp with rfl; exact ⟨by decide, rfl⟩) ?_)
    | ((with_reducible refine at_alloc ?_); refine w_alloc stTim rfl rfl ?_; intro g w5 hg hx f1; have hgW := hide_ (Nat.le_trans hX.size hg); replace hX := hX.trans hx; clear hx hg)
    | ((with_reducible refine at_store ?_); refine w_astore stTim (us := [.int .i64 x]) _ _ rfl rfl rfl rfl rfl f1 rfl rfl (by simp [Value.oneCell']) ?_; intro w5 hm f2; replace hX := hm.after hX (fun i hi => by subst hi; exact hgW.out); clear hm f1)
    | fail) <;> (try simp only [Act.put, List.setIfInBounds_toArray, List.set_cons_zero, List.set_cons_succ]))
  refine wp_region_phx (by kernel_rfl) ?_; intro wd hxd; have F2 := f2.ext hxd
  refine Ph.rest 0 16 (by kernel_rfl) ?_
  refine LinL.step (s := (.val (.bool true))) [] rfl (by kernel_rfl) (op_calls 3 #[] #[] (fun σ => #[]) rfl rfl (fun _ _ => rfl) fun σ w' hx hg => ⟨by simp only [List.map_toArray, List.map_nil], retV (viewNames_any w')⟩) ?_
  refine LinL.step (s := (.val (.bool true))) [(8, some 0)] rfl (by kernel_rfl) (op_copy 8 0 (.val (.bool true)) rfl (.inl rfl) rfl) ?_
  refine LinL.step (s := (.val (.pointer (some ⟨g, 0, none⟩)))) [(3, none), (9, some 0)] rfl (by kernel_rfl) (op_yes (reads := [(3, none)]) 1 9 0 true rfl rfl rfl (op_runs rfl fun σ w' hx hg => ⟨_, runs_field (ρ := σ.eval) (w := w') stTim (.tmp 3) g 0 rfl hg.1 (by omega), rfl⟩)) ?_
  refine LinL.step (s := (.val (.int .i64 y))) [(10, some 0), (9, some 1)] rfl (by kernel_rfl) (op_yes (reads := [(10, some 0)]) 1 9 1 true rfl rfl rfl (op_runs rfl fun σ w' hx hg => ⟨_, runs_fload (ρ := σ.eval) (w := w') (.tmp 10) rfl hg.1 (agg_of (by kernel_rfl) _) (F2.ext hx) rfl, rfl⟩)) ?_
  refine LinL.step (s := (.val (.int .i64 x))) [(0, none), (9, some 2)] rfl (by kernel_rfl) (op_yes (reads := [(0, none)]) 1 9 2 true rfl rfl rfl (op_out 0 (.int .i64 x) rfl (.inl rfl) rfl)) ?_
  refine LinL.step (s := (.val (.int .i64 y))) [(12, some 0), (9, some 3)] rfl (by kernel_rfl) (op_yes (reads := [(12, some 0)]) 1 9 3 true rfl rfl rfl (op_calls 15 #[(.tmp 12)] #[3] (fun σ => #[.int .i64 x]) rfl rfl (fun _ _ => rfl) fun σ w' hx hg => ⟨by have h12 : σ.tmps.getD 12 undef = .int .i64 x := hg.1; simp only [List.map_toArray, List.map_cons, List.map_nil, Act.eval, h12], retV (by rw [← hy.out]; exact RTick_any hxI.out)⟩)) ?_
  refine LinL.step (s := (.val (.bool true))) [(11, some 2), (13, some 0), (9, some 4)] rfl (by kernel_rfl) (op_yes (reads := [(11, some 2), (13, some 0)]) 1 9 4 true rfl rfl rfl (op_runs rfl fun σ w' hx hg => ⟨(.bool true), by have h11 : σ.tmps.getD 11 undef = .int .i64 y := hg.1; have h13 : σ.tmps.getD 13 undef = .int .i64 y := hg.2.1; unfold Runs execOp; simp [Act.eval, h11, h13, go_sem], rfl⟩)) ?_
  refine LinL.step (s := (.val (.bool true))) [(9, some 5), (14, some 0)] rfl (by kernel_rfl) (op_runs rfl fun σ w' hx hg => ⟨_, runs_pick_t (ρ := σ.eval) (w := w') (.tmp 9) (.tmp 14) (.const (.bool false)) rfl hg.1 hg.2.1, rfl⟩) ?_
  refine LinL.step (s := (.val (.bool true))) [(15, some 0)] rfl (by kernel_rfl) (op_copy 15 0 (.val (.bool true)) rfl (.inl rfl) rfl) ?_
  refine LinL.step (s := (.val (.bool q))) [(4, none), (16, some 0)] rfl (by kernel_rfl) (op_yes (reads := [(4, none)]) 8 16 0 true rfl rfl rfl (op_out 4 (.bool q) rfl (.inl rfl) rfl)) ?_
  refine LinL.step (s := (.val (.pointer (some ⟨g, 0, none⟩)))) [(3, none), (16, some 1)] rfl (by kernel_rfl) (op_yes (reads := [(3, none)]) 8 16 1 true rfl rfl rfl (op_runs rfl fun σ w' hx hg => ⟨_, runs_field (ρ := σ.eval) (w := w') stTim (.tmp 3) g 0 rfl hg.1 (by omega), rfl⟩)) ?_
  refine LinL.step (s := (.val (.int .i64 y))) [(18, some 0), (16, some 2)] rfl (by kernel_rfl) (op_yes (reads := [(18, some 0)]) 8 16 2 true rfl rfl rfl (op_runs rfl fun σ w' hx hg => ⟨_, runs_fload (ρ := σ.eval) (w := w') (.tmp 18) rfl hg.1 (agg_of (by kernel_rfl) _) (F2.ext hx) rfl, rfl⟩)) ?_
  refine LinL.step (s := (.val (.bool q))) [(19, some 0), (16, some 3)] rfl (by kernel_rfl) (op_yes (reads := [(19, some 0)]) 8 16 3 true rfl rfl rfl (op_runs rfl fun σ w' hx hg => ⟨(.bool q), by have h19 : σ.tmps.getD 19 undef = .int .i64 y := hg.1; unfold Runs execOp; simp [Act.eval, h19, go_sem, hqb'.out], rfl⟩)) ?_
  refine LinL.step (s := (.val (.bool true))) [(17, some 3), (20, some 0), (16, some 4)] rfl (by kernel_rfl) (op_yes (reads := [(17, some 3), (20, some 0)]) 8 16 4 true rfl rfl rfl (op_runs rfl fun σ w' hx hg => ⟨(.bool true), by have h17 : σ.tmps.getD 17 undef = .bool q := hg.1; have h20 : σ.tmps.getD 20 undef = .bool q := hg.2.1; unfold Runs execOp; simp [Act.eval, h17, h20, go_sem], rfl⟩)) ?_
  refine LinL.step (s := (.val (.bool true))) [(16, some 5), (21, some 0)] rfl (by kernel_rfl) (op_runs rfl fun σ w' hx hg => ⟨_, runs_pick_t (ρ := σ.eval) (w := w') (.tmp 16) (.tmp 21) (.const (.bool false)) rfl hg.1 hg.2.1, rfl⟩) ?_
  refine LinL.step (s := (.val (.bool true))) [(22, some 0)] rfl (by kernel_rfl) (op_copy 22 0 (.val (.bool true)) rfl (.inr rfl) rfl) ?_
  intro wN hxN
  simp only [Fin', List.reverse_cons, List.reverse_nil, List.nil_append, List.cons_append, List.drop_zero, List.take_succ_cons, List.take_zero]
  simp only [Act.put, List.setIfInBounds_toArray, List.set_cons_zero, List.set_cons_succ]
  replace hX := hX.trans (hxd.trans hxN)
  clear hxd hxN F2
  go_wp2
  go_ret
  exact Keep.intro ⟨rfl, hX⟩

set_option maxRecDepth 100000 in
theorem viewTicks_lifted (os : Os) (started : os.Started) (H : Type) (enc : TypeId × Value → H) :
    ReturnsInHanded {} Try.checked os 6 .any (Rows.viewTicksSpec.pre6 enc Try.prog Try.f6 Rows.viewTicksRow.domain false) (Rows.viewTicksSpec.post enc Try.prog Try.f6 false true false false) := by
  refine law_lifted (s := Rows.viewTicksSpec) (conds := Rows.viewTicksRow.domain) Try.func6 (by kernel_rfl) rfl (fun H ds h => by
      rw [show Try.f6.params.size = 1 from rfl] at h
      match ds, h with
      | [d0], _ => rfl) rfl rfl (by decide +kernel) os started H enc
    (ChangeSpec.witness6 (enc := enc) (C := Try.checked) false ⟨#[], #[.int .i64 0], []⟩ 8 (by kernel_rfl) (by kernel_rfl) (by kernel_rfl) (by kernel_rfl)) ?_
  intro W base args ds p hval hA hsz _
  have hp : Try.f6.params.toList = [3] := rfl
  rw [hp] at hA hsz
  obtain ⟨v0, d0, rfl, rfl, h0⟩ := trodAll_one hA
  obtain ⟨a0, rfl, b0, c0⟩ := arg_int (hval 0 3 v0 rfl rfl) h0
  exact viewTicks_law a0 W ⟨b0, c0⟩

theorem viewTicks_holds : Rows.ViewTicksSaid :=
  OpenClaim.holds_of_wide 6 Try.f6 rfl rfl rfl rfl rfl rfl rfl ⟨rfl, rfl, rfl, rfl, rfl⟩ rfl rfl rfl rfl rfl (by kernel_rfl) Try.func6 (by kernel_rfl)
    (of_decide_eq_true (by kernel_rfl)) (by unfold Func.isWrapper; first | (rw [if_pos (by decide +kernel)]; kernel_rfl) | (rw [if_neg (by decide +kernel)]; exact ⟨rfl, rfl⟩))
    (fun os started H enc _ => viewTicks_lifted os started H enc)
#print axioms viewTicks_holds

end Go.Proofs.Ytddaaogicpbekaa
