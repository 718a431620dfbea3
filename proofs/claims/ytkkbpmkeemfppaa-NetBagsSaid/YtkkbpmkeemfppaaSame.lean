/- The contract of neaptideref01.SameInts, of two slices that read alike: true. -/
import Derived.Test.YtkkbpmkeemfppaaFE
namespace Go.Proofs.Ytkkbpmkeemfppaa
open Go.RowKit

set_option maxRecDepth 100000 in
set_option maxHeartbeats 800000 in
theorem SameInts_any (va vb : Value) (l : List Int) (w : World) (ha : Ints w va l) (hb : Ints w vb l) :
    Calls Try.prog 25 #[va, vb] w fun e w' => e = .returned (.bool true) ∧ Ext w w' := by
  refine calls_keep ?_
  have hlm := ha.len_le
  unfold maxLen at hlm
  go_enter Try.func25, Try.ntmps25
  go_wp2_with (first
    | (refine i_len (.tmp 6) rfl rfl (v := va) rfl ha ?_)
    | (refine i_len (.tmp 8) rfl rfl (v := vb) rfl hb ?_)
    | (refine i_len (.tmp 11) rfl rfl (v := va) rfl ha ?_))
  go_loopw [13] (fun i wr => ∃ (k : Nat), i = .int .i64 k ∧ k ≤ l.length ∧ Ext w wr)
    (fun i _ => l.length - (intOf i).toNat)
  case atStart => exact ⟨0, rfl, Nat.zero_le _, Ext.refl _⟩
  case round =>
    obtain ⟨k, rfl, hk, hX⟩ := hrel
    by_cases hlt : k < l.length
    · have K0 := (ha.ext hX).ext (Ext.refl _).drew
      have K1 := (hb.ext hX).ext (Ext.refl _).drew
      go_wp2
      refine wp_region_linR (by kernel_rfl) (by kernel_rfl) ?_
      refine LinR.step (s := (.val (va))) [(0, none)] rfl (by kernel_rfl) (op_out 0 (va) rfl (.inl rfl) rfl) ?_
      refine LinR.step (s := (.val (.int .i64 k))) [(5, none)] rfl (by kernel_rfl) (op_out 5 (.int .i64 k) rfl (.inl rfl) rfl) ?_
      refine LinR.step (s := (Sp.ptr (.int .i64 (l[k])))) [(16, some 1), (17, some 0)] rfl (by kernel_rfl) (op_runs rfl fun σ w' hx hg => rptri (ρ := σ.eval) (w := w') (.tmp 16) (.tmp 17) rfl (hg.1) (K0.ext hx) k hg.2.1 hlt rfl) ?_
      refine LinR.step (s := (.val (.int .i64 (l[k] : Int)))) [(18, some 0)] rfl (by kernel_rfl) (op_runs rfl fun σ w' hx hg => ⟨_, runs_load (ρ := σ.eval) (w := w') (.tmp 18) rfl Try.underlying3 rfl hg.1, rfl⟩) ?_
      refine LinR.step (s := (.val (vb))) [(1, none)] rfl (by kernel_rfl) (op_out 1 (vb) rfl (.inl rfl) rfl) ?_
      refine LinR.step (s := (.val (.int .i64 k))) [(5, none)] rfl (by kernel_rfl) (op_out 5 (.int .i64 k) rfl (.inl rfl) rfl) ?_
      refine LinR.step (s := (Sp.ptr (.int .i64 (l[k])))) [(20, some 1), (21, some 0)] rfl (by kernel_rfl) (op_runs rfl fun σ w' hx hg => rptri (ρ := σ.eval) (w := w') (.tmp 20) (.tmp 21) rfl (hg.1) (K1.ext hx) k hg.2.1 hlt rfl) ?_
      refine LinR.step (s := (.val (.int .i64 (l[k] : Int)))) [(22, some 0)] rfl (by kernel_rfl) (op_runs rfl fun σ w' hx hg => ⟨_, runs_load (ρ := σ.eval) (w := w') (.tmp 22) rfl Try.underlying3 rfl hg.1, rfl⟩) ?_
      refine LinR.step (s := (.val (.bool false))) [(19, some 4), (23, some 0)] rfl (by kernel_rfl) (op_runs rfl fun σ w' hx hg => ⟨(.bool false), by have h19 : σ.tmps.getD 19 undef = .int .i64 (l[k] : Int) := hg.1; have h23 : σ.tmps.getD 23 undef = .int .i64 (l[k] : Int) := hg.2.1; unfold Runs execOp; simp [Act.eval, h19, h23, go_sem], rfl⟩) ?_
      intro wN hxN
      simp only [Fin', Sp.ptr, List.reverse_cons, List.reverse_nil, List.nil_append, List.cons_append]
      intro q18 hq18 q22 hq22
      simp only [Act.put, List.setIfInBounds_toArray, List.set_cons_zero, List.set_cons_succ]
      go_wp2
      go_roundw
      case rel => exact ⟨k + 1, by go_num, by omega, (hX.trans (Ext.refl _).drew).trans hxN⟩
      case measure => simp [intOf]; omega
    · go_wp2
      go_ret
      exact Keep.intro ⟨rfl, hX⟩
end Go.Proofs.Ytkkbpmkeemfppaa
