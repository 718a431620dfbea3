/- The statement ViewOver: a timer that was set is over behind just so many ticks as one waits, and stays so. No condition. -/
import Derived.Test.YtddaaogicpbekaaVLn
namespace Go.Proofs.Ytddaaogicpbekaa
open Go.RowKit Go.ChangeShapes Go.WideShapes Go.ChangeAt

/-- What is left behind k - 1 ticks. -/
def lft (p k : Int) : Int := max (p - (k - 1)) 0
theorem lft_step (p k : Int) : tck (lft p k) = lft p (k + 1) := by unfold tck lft; omega
theorem lft_over {p k : Int} : (lft p (k + 1) = 0) ↔ p ≤ k := by unfold lft; omega

set_option maxRecDepth 100000 in
set_option maxHeartbeats 1600000 in
theorem viewOver_law (v b m : Int) (W : World) (hI : -9223372036854775808 ≤ v ∧ v ≤ 9223372036854775807) : Calls Try.prog 8 #[.int .i64 v, .int .i64 b, .int .i64 m] W fun e w' => e = .returned (.bool true) ∧ Ext W w' := by
  refine calls_keep ?_
  have hX := Ext.refl W
  obtain ⟨p, hp0⟩ : ∃ p, pat v b m = p := ⟨_, rfl⟩
  obtain ⟨hp1, hp2⟩ : 1 ≤ p ∧ p ≤ 1000 := by rw [← hp0]; exact pat_range v b m
  have hp := hide_ hp0
  have hvI := hide_ hI.2
  clear hp0 hI
  go_enter Try.func8, Try.ntmps8
  go_wp2_with ((first
    | go_big_skip
    | (go_at_call 3; refine (viewNames_any _).mono ?_; rintro e w4 ⟨rfl, hx⟩; replace hX := hX.trans hx; clear hx)
    | (go_at_call 9; refine (Patience_any hvI.out).mono ?_; rintro e w4 ⟨rfl, hx⟩; rw [hp.out]; replace f2 := f2.ext hx; replace hX := hX.trans hx; clear hx)
    | (go_at_call 13; refine (Set_any f2 hvI.out).mono ?_; clear f2; rintro e w6 ⟨rfl, w7, hx, hm, f2⟩; rw [hp.out] at f2; replace hX := hm.after (hX.trans hx) (fun i hi => by subst hi; exact hgW.out); clear hx hm)
    | ((with_reducible refine at_sbuild ?_); refine w_sbuild stTim [.int .i64 0] rfl rfl rfl (by intro p hp; simp at hp) ?_)
    | ((with_reducible refine at_alloc ?_); refine w_alloc stTim rfl rfl ?_; intro g w5 hg hx f1; have hgW := hide_ (Nat.le_trans hX.size hg); replace hX := hX.trans hx; clear hx hg)
    | ((with_reducible refine at_store ?_); refine w_astore stTim (us := [.int .i64 0]) _ _ rfl rfl rfl rfl rfl f1 rfl rfl (by simp [Value.oneCell']) ?_; intro w5 hm f2; replace hX := hm.after hX (fun i hi => by subst hi; exact hgW.out); clear hm f1)
    | fail) <;> (try simp only [Act.put, List.setIfInBounds_toArray, List.set_cons_zero, List.set_cons_succ]))
  go_loopw [9] (fun r wr => ∃ (k x : Int), r = .int .i64 k ∧ 1 ≤ k ∧ k ≤ p + 4 ∧ Hid (x = lft p k) ∧ Fs wr g [.int .i64 x] ∧ Ext W wr) (fun r _ => (p + 4 - RowKit.intOf r).toNat)
  case atStart => exact ⟨1, p, rfl, by omega, by omega, hide_ (by unfold lft; omega), f2, hX⟩
  case round =>
    clear hX f2
    obtain ⟨k, x, rfl, hk1, hk2, hx0, f2, hX⟩ := hrel
    by_cases hc : k ≤ p + 3
    · have d1 : decide (k ≤ p + 3) = true := decide_eq_true hc
      have hxI := hide_ (show x ≤ 9223372036854775807 from by rw [hx0.out]; unfold lft; omega)
      obtain ⟨q, hq0⟩ : ∃ q, decide (p ≤ k) = q := ⟨_, rfl⟩
      have hq := hide_ (show decide (tck x = 0) = q from by rw [← hq0, hx0.out, lft_step]; exact decide_eq_decide.2 lft_over)
      have hn := hide_ (show tck x = lft p (k + 1) from by rw [hx0.out, lft_step])
      go_wp2_with (first
        | (go_at_call 14; refine (Tick_any f2 hxI.out).mono ?_; clear f2; rintro e w6 ⟨rfl, hm, f2⟩; rw [hq.out]; replace hX := hm.after hX (fun i hi => by subst hi; exact hgW.out); clear hm)
        | fail)
      go_roundw
      case rel => exact ⟨k + 1, tck x, rfl, by omega, by omega, hn, f2, hX⟩
      case measure => simp [RowKit.intOf]; omega
    · have d1 : decide (k ≤ p + 3) = false := decide_eq_false hc
      obtain rfl : x = 0 := by rw [hx0.out]; unfold lft; omega
      clear hc
      go_wp2_with ((first
        | ((with_reducible refine at_field ?_); refine w_field stTim _ _ _ rfl rfl rfl (by omega) ?_)
        | ((with_reducible refine at_load ?_); refine w_fload _ rfl rfl rfl f2 rfl (agg_of (by kernel_rfl)) ?_)
        | fail) <;> (try simp only [Act.put, List.setIfInBounds_toArray, List.set_cons_zero, List.set_cons_succ]))
      go_ret
      exact Keep.intro ⟨rfl, hX⟩

set_option maxRecDepth 100000 in
theorem viewOver_lifted (os : Os) (started : os.Started) (H : Type) (enc : TypeId × Value → H) :
    ReturnsInHanded {} Try.checked os 8 .any (Rows.viewOverSpec.pre6 enc Try.prog Try.f8 Rows.viewOverRow.domain false) (Rows.viewOverSpec.post enc Try.prog Try.f8 false true false false) := by
  refine law_lifted (s := Rows.viewOverSpec) (conds := Rows.viewOverRow.domain) Try.func8 (by kernel_rfl) rfl (fun H ds h => by
      rw [show Try.f8.params.size = 3 from rfl] at h
      match ds, h with
      | [d0, d1, d2], _ => rfl) rfl rfl (by decide +kernel) os started H enc
    (ChangeSpec.witness6 (enc := enc) (C := Try.checked) false ⟨#[], #[.int .i64 0, .int .i64 0, .int .i64 0], []⟩ 8 (by kernel_rfl) (by kernel_rfl) (by kernel_rfl) (by kernel_rfl)) ?_
  intro W base args ds p hval hA hsz _
  have hp : Try.f8.params.toList = [3, 3, 3] := rfl
  rw [hp] at hA hsz
  obtain ⟨v0, v1, v2, d0, d1, d2, p0, p1, p2, rfl, rfl, rfl, h0, h1, h2⟩ := trodAll_three hA
  obtain ⟨a0, rfl, b0, c0⟩ := arg_int (hval 0 3 v0 rfl rfl) h0
  obtain ⟨a1, rfl, b1, c1⟩ := arg_int (hval 1 3 v1 rfl rfl) h1
  obtain ⟨a2, rfl, b2, c2⟩ := arg_int (hval 2 3 v2 rfl rfl) h2
  exact viewOver_law a0 a1 a2 W ⟨b0, c0⟩

theorem viewOver_holds : Rows.ViewOverSaid :=
  OpenClaim.holds_of_wide 8 Try.f8 rfl rfl rfl rfl rfl rfl rfl ⟨rfl, rfl, rfl, rfl, rfl⟩ rfl rfl rfl rfl rfl (by kernel_rfl) Try.func8 (by kernel_rfl)
    (of_decide_eq_true (by kernel_rfl)) (by unfold Func.isWrapper; first | (rw [if_pos (by decide +kernel)]; kernel_rfl) | (rw [if_neg (by decide +kernel)]; exact ⟨rfl, rfl⟩))
    (fun os started H enc _ => viewOver_lifted os started H enc)
#print axioms viewOver_holds

end Go.Proofs.Ytddaaogicpbekaa
