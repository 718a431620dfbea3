/- The contracts of wire.appendNum and wire.Num: the groups of seven bits of a number, behind what is there. -/
import Derived.Test.YtabbgnlabiakoaaByt
namespace Go.Proofs.Ytabbgnlabiakoaa
open Go.RowKit

/-- A number's groups of seven bits. -/
def numL (n : Nat) : List Nat := if n < 128 then [n] else (n % 128 + 128) :: numL (n / 128)
termination_by n
decreasing_by omega

theorem numL_small {n : Nat} (h : n < 128) : numL n = [n] := by rw [numL, if_pos h]
theorem numL_big {n : Nat} (h : 128 ≤ n) : numL n = (n % 128 + 128) :: numL (n / 128) := by rw [numL, if_neg (by omega)]
theorem numL_len : ∀ (k n : Nat), n < 128 ^ (k + 1) → (numL n).length ≤ k + 1
  | 0, n, h => by rw [numL_small (by omega)]; simp
  | k + 1, n, h => by
    by_cases hn : n < 128
    · rw [numL_small hn]; simp
    · rw [numL_big (by omega)]
      have := numL_len k (n / 128) (by rw [Nat.pow_succ] at h; omega)
      simp; omega
def W64 (n : Nat) : Prop := n < 18446744073709551616
theorem numL_len10 {n : Nat} (h : W64 n) : (numL n).length ≤ 10 := numL_len 9 n (by unfold W64 at h; omega)

theorem or128 (m : Nat) : bits .or .u8 ((m : Int) % 256) 128 = (m : Int) % 128 + 128 := by
  have h : ∀ k : Fin 256, bits .or .u8 (k.val : Int) 128 = ((k.val % 128 + 128 : Nat) : Int) := by decide +kernel
  have := h ⟨m % 256, Nat.mod_lt _ (by omega)⟩
  simp only at this
  rw [show ((m % 256 : Nat) : Int) = (m : Int) % 256 from by omega] at this
  rw [this]; omega

set_option maxRecDepth 100000 in
set_option maxHeartbeats 400000 in
theorem appendNum_any (base : Nat) (v : Value) (xs : List Nat) (x : Nat) (w : World) (hx : W64 x) (hxs : xs.length ≤ 140737488355000)
    (hown : OwnB base w v xs) (hb : base ≤ w.heap.size) :
    Calls Try.prog 30 #[v, .int .u64 x] w fun e w' => ∃ v', e = .returned v' ∧ OwnB base w' v' (xs ++ numL x) ∧ Below base w w' := by
  have hx10 := numL_len10 hx
  go_enter Try.func30, Try.ntmps30
  go_wp2
  go_loopw [0, 1] (fun v' n wr => ∃ (ys : List Nat) (m : Nat), n = .int .u64 m ∧ OwnB base wr v' (xs ++ ys) ∧ Hid (ys ++ numL m = numL x) ∧ Below base w wr ∧ ys.length ≤ 10)
    (fun _ n _ => (intOf n).toNat)
  case atStart => exact ⟨[], x, rfl, by simpa using hown, rfl, Below.refl _ _, by simp⟩
  case round =>
    obtain ⟨ys, m, rfl, ho, heq, hbw, hyl⟩ := hrel
    have hs := hbw.size
    have hor := or128 m
    have hbytes : (xs ++ ys).length + 1 ≤ 140737488355328 := by rw [List.length_append]; omega
    by_cases h128 : 128 ≤ m
    · go_wp2_with (at_builtin; refine appb (.tmp 9) (.tmp 13) rfl rfl rfl rfl (ho.ext ((Ext.refl _).alloc _)) (byt_one (n := m % 128 + 128) (by omega)) hbytes (by simp; omega) ?_; intro v1 w1 ho1 hb1 hg1)
      go_roundw
      case rel =>
        refine ⟨ys ++ [m % 128 + 128], m / 128, by go_num, by rw [← List.append_assoc]; exact ho1, ?_, hbw.trans ((((Below.refl _ _).alloc (by omega) _)).trans hb1), ?_⟩
        · have := heq.out; rw [numL_big h128] at this; unfold Hid; rw [← this]; simp
        · have := heq.out; rw [numL_big h128] at this; have := congrArg List.length this; simp at this ⊢; omega
      case measure => simp [intOf]; omega
    · go_wp2_with (at_builtin; refine appb (.tmp 15) (.tmp 18) rfl rfl rfl rfl (ho.ext ((Ext.refl _).alloc _)) (byt_one rfl) hbytes (by simp; omega) ?_; intro v1 w1 ho1 hb1 hg1)
      go_ret
      refine ⟨v1, rfl, ?_, hbw.trans ((((Below.refl _ _).alloc (by omega) _)).trans hb1)⟩
      have := heq.out; rw [numL_small (by omega)] at this; rw [← this, ← List.append_assoc]; exact ho1

end Go.Proofs.Ytabbgnlabiakoaa
