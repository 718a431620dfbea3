/- Whether a number is in a list of numbers (slices.Index, slices.Contains). -/
import Derived.Test.YtgbhbifdfcfamaaFB
import Derived.Test.YtgbhbifdfcfamaaFD
namespace Go.Proofs.Ytgbhbifdfcfamaa
set_option maxRecDepth 100000
open Go.RowKit

theorem not_mem_take_succ {l : List Int} {k : Nat} {n : Int} (h : n ∉ l.take k) (hk : k < l.length) (hn : l[k] ≠ n) : n ∉ l.take (k + 1) := by
  rw [List.take_add_one, List.getElem?_eq_getElem hk]
  simp only [Option.toList_some, List.mem_append, List.mem_singleton, not_or]
  exact ⟨h, fun e => hn e.symm⟩
set_option maxRecDepth 100000 in
set_option maxHeartbeats 1600000 in
theorem Index_any {w : World} {v : Value} {l : List Int} {n : Int} (h0 : Ints w v l) :
    Calls Try.prog 50 #[v, .int .i64 n] w fun e w' => ∃ r : Int, e = .returned (.int .i64 r) ∧ decide (0 ≤ r) = decide (n ∈ l) ∧ Ext w w' := by
  refine calls_keep ?_
  have hmax : l.length ≤ 9223372036854775807 := by have := h0.len_le; unfold maxLen at this; omega
  replace h0 := hide_ h0
  go_enter Try.func50, Try.ntmps50
  go_wp2_with ((first
    | ((with_reducible refine at_bi ?_); refine i_len _ rfl rfl (v := v) rfl h0.out ?_)
    | fail) <;> (try simp only [Act.put, List.setIfInBounds_toArray, List.set_cons_zero, List.set_cons_succ]))
  go_loopw [8] (fun i wr => ∃ k : Nat, i = .int .i64 k ∧ k ≤ l.length ∧ Hid (n ∉ l.take k) ∧ Ext w wr) (fun i _ => l.length - (RowKit.intOf i).toNat)
  case atStart => exact ⟨0, rfl, Nat.zero_le _, hide_ (by simp), Ext.refl _⟩
  case round =>
    obtain ⟨k, rfl, hk, hnt, hX⟩ := hrel
    by_cases hge : l.length ≤ k
    · obtain rfl : k = l.length := by omega
      have t2 : decide (l.length < l.length) = false := by simp
      rw [List.take_length] at hnt
      clear hge
      go_wp2
      go_ret
      exact Keep.intro ⟨-1, rfl, by rw [decide_eq_false hnt.out]; rfl, hX⟩
    have hlt : k < l.length := by omega
    have t2 : decide (k < l.length) = true := by simpa using hlt
    obtain ⟨x, hx0⟩ : ∃ x, l[k] = x := ⟨_, rfl⟩
    have hx := hide_ hx0
    have hlt' := hide_ hlt
    clear hge
    cases hc : (n == x)
    · have hnt2 := hide_ (not_mem_take_succ hnt.out hlt (by rw [hx0]; intro e; rw [e] at hc; simp at hc))
      clear hx0
      go_wp2_with ((first
        | ((with_reducible refine at_idx ?_); refine i_idx _ _ k rfl rfl rfl (h0.out.ext hX) rfl hlt'.out ?_; intro ad had; rw [hx.out] at had)
        | fail) <;> (try simp only [Act.put, List.setIfInBounds_toArray, List.set_cons_zero, List.set_cons_succ]))
      go_roundw
      case rel => exact ⟨k + 1, by go_num, hlt'.out, hnt2, hX⟩
      case measure => have := hlt'.out; simp [RowKit.intOf]; omega
    · have hin := hide_ (show n ∈ l from by
        have : n = x := by simpa using hc
        rw [this, ← hx0]; exact List.getElem_mem hlt)
      clear hx0
      go_wp2_with ((first
        | ((with_reducible refine at_idx ?_); refine i_idx _ _ k rfl rfl rfl (h0.out.ext hX) rfl hlt'.out ?_; intro ad had; rw [hx.out] at had)
        | fail) <;> (try simp only [Act.put, List.setIfInBounds_toArray, List.set_cons_zero, List.set_cons_succ]))
      go_ret
      exact Keep.intro ⟨(k : Nat), rfl, by rw [decide_eq_true hin.out]; simp, hX⟩
set_option maxRecDepth 100000 in
set_option maxHeartbeats 1600000 in
theorem Contains_any {w : World} {v : Value} {l : List Int} {n : Int} (h0 : Ints w v l) :
    Calls Try.prog 24 #[v, .int .i64 n] w fun e w' => e = .returned (.bool (decide (n ∈ l))) ∧ Ext w w' := by
  refine calls_keep ?_
  replace h0 := hide_ h0
  have hX := Ext.refl w
  obtain ⟨q, hq⟩ : ∃ q, decide (n ∈ l) = q := ⟨_, rfl⟩
  have hq' := hide_ hq
  rw [hq]
  clear hq
  go_enter Try.func24, Try.ntmps24
  go_wp2_with (first
    | (go_at_call 50; refine (Index_any (n := n) (h0.out.ext hX)).mono ?_; rintro e w4 ⟨r, rfl, hr, hx⟩; rw [hq'.out] at hr; replace hX := hX.trans hx; clear hx)
    | fail)
  go_ret
  exact Keep.intro ⟨rfl, hX⟩
end Go.Proofs.Ytgbhbifdfcfamaa
