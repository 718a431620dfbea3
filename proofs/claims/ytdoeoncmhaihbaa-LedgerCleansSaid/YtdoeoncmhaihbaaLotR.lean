/- The contracts of the document's Check, Wins, Winners, Slots. Condition: but for Check, draws that can be. -/
import Derived.Test.YtdoeoncmhaihbaaLTG
namespace Go.Proofs.Ytdoeoncmhaihbaa
set_option maxRecDepth 100000
open Go.RowKit

set_option maxRecDepth 100000 in
set_option maxHeartbeats 1600000 in
theorem refCheck_any {w : World} {v : Value} {l : List Int} (h0 : Ints w v l) :
    Calls Try.prog 17 #[v] w fun e w' => e = .returned (.int .i64 (lchk l)) ∧ Ext w w' := by
  refine calls_keep ?_
  have hX := Ext.refl w
  have hmax : l.length ≤ 9223372036854775807 := by have := h0.len_le; unfold maxLen at this; omega
  replace h0 := hide_ h0
  by_cases h1 : 200 < l.length
  · have t1 : decide ((200 : Int) < (l.length : Int)) = true := by simp; omega
    have hc := hide_ (show lchk l = 101 from if_neg fun e => by have := e.1; omega)
    clear h1
    go_enter Try.func17, Try.ntmps17
    go_wp2_with ((first
      | ((with_reducible refine at_bi ?_); (try refine w_yes _ _ _ rfl rfl rfl ?_); refine i_len _ rfl rfl (v := v) rfl (h0.out.ext hX) ?_)
      | fail) <;> (try simp only [Act.put, List.setIfInBounds_toArray, List.set_cons_zero, List.set_cons_succ]))
    go_ret
    exact Keep.intro ⟨by rw [hc.out]; rfl, Ext.refl _⟩
  have t1 : decide ((200 : Int) < (l.length : Int)) = false := by simp; omega
  have hl := hide_ (show l.length ≤ 200 from by omega)
  go_enter Try.func17, Try.ntmps17
  go_wp2_with ((first
    | ((with_reducible refine at_bi ?_); (try refine w_yes _ _ _ rfl rfl rfl ?_); refine i_len _ rfl rfl (v := v) rfl (h0.out.ext hX) ?_)
    | fail) <;> (try simp only [Act.put, List.setIfInBounds_toArray, List.set_cons_zero, List.set_cons_succ]))
  go_loopw [10] (fun i wr => ∃ k : Nat, i = .int .i64 k ∧ k ≤ l.length ∧ Hid (∀ x ∈ l.take k, 0 ≤ x ∧ x ≤ 127) ∧ wr = w) (fun i _ => l.length - (RowKit.intOf i).toNat)
  case atStart => exact ⟨0, rfl, by omega, hide_ (by simp), rfl⟩
  case round =>
    obtain ⟨k, rfl, hk, hnt, rfl⟩ := hrel
    by_cases hge : l.length ≤ k
    · obtain rfl : k = l.length := by omega
      have t2 : decide ((l.length : Int) < (l.length : Int)) = false := by simp
      rw [List.take_length] at hnt
      have hc := hide_ (show lchk l = 0 from if_pos ⟨hl.out, hnt.out⟩)
      clear hge
      go_wp2
      go_ret
      exact Keep.intro ⟨by rw [hc.out]; rfl, Ext.refl _⟩
    have hlt : k < l.length := by omega
    have t2 : decide ((k : Int) < (l.length : Int)) = true := by simp; omega
    obtain ⟨x, hx0⟩ : ∃ x, l[k] = x := ⟨_, rfl⟩
    have hx := hide_ hx0
    have e0 : l.take (k + 1) = l.take k ++ [x] := by rw [List.take_add_one, List.getElem?_eq_getElem hlt, hx0]; rfl
    have hlt' := hide_ hlt
    by_cases c1 : x < 0
    · have t3 : decide (x < 0) = true := by simpa using c1
      have hc := hide_ (show lchk l = 101 from if_neg fun e => by have := e.2 x (by rw [← hx0]; exact List.getElem_mem hlt); omega)
      clear hge hx0 e0 hnt c1
      go_wp2_with ((first
        | ((with_reducible refine at_idx ?_); refine i_idx _ _ k rfl rfl rfl h0.out rfl hlt'.out ?_; intro ad had; rw [hx.out] at had)
        | fail) <;> (try simp only [Act.put, List.setIfInBounds_toArray, List.set_cons_zero, List.set_cons_succ]))
      go_ret
      exact Keep.intro ⟨by rw [hc.out]; rfl, Ext.refl _⟩
    have t3 : decide (x < 0) = false := by simpa using c1
    by_cases c2 : 127 < x
    · have t4 : decide (127 < x) = true := by simpa using c2
      have hc := hide_ (show lchk l = 101 from if_neg fun e => by have := e.2 x (by rw [← hx0]; exact List.getElem_mem hlt); omega)
      clear hge hx0 e0 hnt c1 c2
      go_wp2_with ((first
        | ((with_reducible refine at_idx ?_); refine i_idx _ _ k rfl rfl rfl h0.out rfl hlt'.out ?_; intro ad had; rw [hx.out] at had)
        | fail) <;> (try simp only [Act.put, List.setIfInBounds_toArray, List.set_cons_zero, List.set_cons_succ]))
      go_ret
      exact Keep.intro ⟨by rw [hc.out]; rfl, Ext.refl _⟩
    have t4 : decide (127 < x) = false := by simpa using c2
    have hnt2 := hide_ (show ∀ y ∈ l.take (k + 1), 0 ≤ y ∧ y ≤ 127 from by
      rw [e0]
      intro y hy
      rcases List.mem_append.1 hy with hy | hy
      · exact hnt.out y hy
      · simp only [List.mem_singleton] at hy; subst hy; omega)
    clear hge hx0 e0 hnt c1 c2
    go_wp2_with ((first
      | ((with_reducible refine at_idx ?_); refine i_idx _ _ k rfl rfl rfl h0.out rfl hlt'.out ?_; intro ad had; rw [hx.out] at had)
      | fail) <;> (try simp only [Act.put, List.setIfInBounds_toArray, List.set_cons_zero, List.set_cons_succ]))
    go_roundw
    case rel => exact ⟨k + 1, by go_num, hlt'.out, hnt2, by trivial⟩
    case measure => have := hlt'.out; simp [RowKit.intOf]; omega

theorem sev_bit (d : Int) (k : Nat) {c : Int} (hc : c = 2 ^ k) : (d / c % 2 == 1) = bitN d k := by rw [hc]; rfl
set_option maxRecDepth 100000 in
set_option maxHeartbeats 3200000 in
theorem refWins_any {w : World} {v : Value} {l : List Int} {s n : Int} (hD : DrOk l) (h0 : Ints w v l) :
    Calls Try.prog 44 #[v, .int .i64 s, .int .i64 n] w fun e w' => e = .returned (.bool (win l s n)) ∧ Ext w w' := by
  refine calls_keep ?_
  have hX := Ext.refl w
  by_cases g : 1 ≤ s ∧ s ≤ l.length ∧ 0 ≤ n ∧ n ≤ 6
  · obtain ⟨i, rfl⟩ : ∃ i : Nat, s = (i : Int) + 1 := ⟨(s - 1).toNat, by omega⟩
    obtain ⟨k, rfl⟩ : ∃ k : Nat, n = (k : Int) := ⟨n.toNat, by omega⟩
    have hlt : i < l.length := by omega
    have hk : k < 7 := by omega
    have hlen := hD.1
    have hd := hD.at hlt
    rw [win_at hlt hk]
    obtain ⟨d, hd0⟩ : ∃ d, l[i] = d := ⟨_, rfl⟩
    obtain ⟨b, hb⟩ : ∃ b, bitN l[i] k = b := ⟨_, rfl⟩
    rw [hb]
    rw [hd0] at hd hb
    have hdl := hd.1
    have hdh := hd.2
    have hx := hide_ hd0
    have hlt' := hide_ hlt
    have t1 : decide ((i : Int) + 1 < 1) = false := by simp; omega
    have t2 : decide ((l.length : Int) < (i : Int) + 1) = false := by simp; omega
    replace h0 := hide_ h0
    clear g hD hd0 hd
    rcases (show k = 0 ∨ k = 1 ∨ k = 2 ∨ k = 3 ∨ k = 4 ∨ k = 5 ∨ k = 6 by omega) with rfl | rfl | rfl | rfl | rfl | rfl | rfl
    · have hq0 := sev_bit d 0 (c := 1) rfl
      rw [hb, Int.ediv_one] at hq0
      have hq := hide_ hq0
      clear hb hq0
      go_enter Try.func44, Try.ntmps44
      go_wp2_with ((first
        | ((with_reducible refine at_bi ?_); (try refine w_yes _ _ _ rfl rfl rfl ?_); refine i_len _ rfl rfl (v := v) rfl (h0.out.ext hX) ?_)
        | ((with_reducible refine at_idx ?_); refine i_idx _ _ i rfl rfl rfl h0.out rfl hlt'.out ?_; intro ad had; rw [hx.out] at had)
        | ((with_reducible refine at_get ?_); refine w_aget Try.underlying101 (by kernel_rfl) (agg_of (by kernel_rfl)) _ _ 0 rfl rfl rfl rfl rfl rfl ?_)
        | fail) <;> (try simp only [Act.put, List.setIfInBounds_toArray, List.set_cons_zero, List.set_cons_succ]))
      go_ret
      exact Keep.intro ⟨by rw [← hq.out]; rfl, Ext.refl _⟩
    · have hq0 := sev_bit d 1 (c := 2) rfl
      rw [hb] at hq0
      have hq := hide_ hq0
      clear hb hq0
      go_enter Try.func44, Try.ntmps44
      go_wp2_with ((first
        | ((with_reducible refine at_bi ?_); (try refine w_yes _ _ _ rfl rfl rfl ?_); refine i_len _ rfl rfl (v := v) rfl (h0.out.ext hX) ?_)
        | ((with_reducible refine at_idx ?_); refine i_idx _ _ i rfl rfl rfl h0.out rfl hlt'.out ?_; intro ad had; rw [hx.out] at had)
        | ((with_reducible refine at_get ?_); refine w_aget Try.underlying101 (by kernel_rfl) (agg_of (by kernel_rfl)) _ _ 1 rfl rfl rfl rfl rfl rfl ?_)
        | fail) <;> (try simp only [Act.put, List.setIfInBounds_toArray, List.set_cons_zero, List.set_cons_succ]))
      go_ret
      exact Keep.intro ⟨by rw [← hq.out]; rfl, Ext.refl _⟩
    · have hq0 := sev_bit d 2 (c := 4) rfl
      rw [hb] at hq0
      have hq := hide_ hq0
      clear hb hq0
      go_enter Try.func44, Try.ntmps44
      go_wp2_with ((first
        | ((with_reducible refine at_bi ?_); (try refine w_yes _ _ _ rfl rfl rfl ?_); refine i_len _ rfl rfl (v := v) rfl (h0.out.ext hX) ?_)
        | ((with_reducible refine at_idx ?_); refine i_idx _ _ i rfl rfl rfl h0.out rfl hlt'.out ?_; intro ad had; rw [hx.out] at had)
        | ((with_reducible refine at_get ?_); refine w_aget Try.underlying101 (by kernel_rfl) (agg_of (by kernel_rfl)) _ _ 2 rfl rfl rfl rfl rfl rfl ?_)
        | fail) <;> (try simp only [Act.put, List.setIfInBounds_toArray, List.set_cons_zero, List.set_cons_succ]))
      go_ret
      exact Keep.intro ⟨by rw [← hq.out]; rfl, Ext.refl _⟩
    · have hq0 := sev_bit d 3 (c := 8) rfl
      rw [hb] at hq0
      have hq := hide_ hq0
      clear hb hq0
      go_enter Try.func44, Try.ntmps44
      go_wp2_with ((first
        | ((with_reducible refine at_bi ?_); (try refine w_yes _ _ _ rfl rfl rfl ?_); refine i_len _ rfl rfl (v := v) rfl (h0.out.ext hX) ?_)
        | ((with_reducible refine at_idx ?_); refine i_idx _ _ i rfl rfl rfl h0.out rfl hlt'.out ?_; intro ad had; rw [hx.out] at had)
        | ((with_reducible refine at_get ?_); refine w_aget Try.underlying101 (by kernel_rfl) (agg_of (by kernel_rfl)) _ _ 3 rfl rfl rfl rfl rfl rfl ?_)
        | fail) <;> (try simp only [Act.put, List.setIfInBounds_toArray, List.set_cons_zero, List.set_cons_succ]))
      go_ret
      exact Keep.intro ⟨by rw [← hq.out]; rfl, Ext.refl _⟩
    · have hq0 := sev_bit d 4 (c := 16) rfl
      rw [hb] at hq0
      have hq := hide_ hq0
      clear hb hq0
      go_enter Try.func44, Try.ntmps44
      go_wp2_with ((first
        | ((with_reducible refine at_bi ?_); (try refine w_yes _ _ _ rfl rfl rfl ?_); refine i_len _ rfl rfl (v := v) rfl (h0.out.ext hX) ?_)
        | ((with_reducible refine at_idx ?_); refine i_idx _ _ i rfl rfl rfl h0.out rfl hlt'.out ?_; intro ad had; rw [hx.out] at had)
        | ((with_reducible refine at_get ?_); refine w_aget Try.underlying101 (by kernel_rfl) (agg_of (by kernel_rfl)) _ _ 4 rfl rfl rfl rfl rfl rfl ?_)
        | fail) <;> (try simp only [Act.put, List.setIfInBounds_toArray, List.set_cons_zero, List.set_cons_succ]))
      go_ret
      exact Keep.intro ⟨by rw [← hq.out]; rfl, Ext.refl _⟩
    · have hq0 := sev_bit d 5 (c := 32) rfl
      rw [hb] at hq0
      have hq := hide_ hq0
      clear hb hq0
      go_enter Try.func44, Try.ntmps44
      go_wp2_with ((first
        | ((with_reducible refine at_bi ?_); (try refine w_yes _ _ _ rfl rfl rfl ?_); refine i_len _ rfl rfl (v := v) rfl (h0.out.ext hX) ?_)
        | ((with_reducible refine at_idx ?_); refine i_idx _ _ i rfl rfl rfl h0.out rfl hlt'.out ?_; intro ad had; rw [hx.out] at had)
        | ((with_reducible refine at_get ?_); refine w_aget Try.underlying101 (by kernel_rfl) (agg_of (by kernel_rfl)) _ _ 5 rfl rfl rfl rfl rfl rfl ?_)
        | fail) <;> (try simp only [Act.put, List.setIfInBounds_toArray, List.set_cons_zero, List.set_cons_succ]))
      go_ret
      exact Keep.intro ⟨by rw [← hq.out]; rfl, Ext.refl _⟩
    · have hq0 := sev_bit d 6 (c := 64) rfl
      rw [hb] at hq0
      have hq := hide_ hq0
      clear hb hq0
      go_enter Try.func44, Try.ntmps44
      go_wp2_with ((first
        | ((with_reducible refine at_bi ?_); (try refine w_yes _ _ _ rfl rfl rfl ?_); refine i_len _ rfl rfl (v := v) rfl (h0.out.ext hX) ?_)
        | ((with_reducible refine at_idx ?_); refine i_idx _ _ i rfl rfl rfl h0.out rfl hlt'.out ?_; intro ad had; rw [hx.out] at had)
        | ((with_reducible refine at_get ?_); refine w_aget Try.underlying101 (by kernel_rfl) (agg_of (by kernel_rfl)) _ _ 6 rfl rfl rfl rfl rfl rfl ?_)
        | fail) <;> (try simp only [Act.put, List.setIfInBounds_toArray, List.set_cons_zero, List.set_cons_succ]))
      go_ret
      exact Keep.intro ⟨by rw [← hq.out]; rfl, Ext.refl _⟩
  · rw [win_out g]
    replace h0 := hide_ h0
    by_cases g1 : s < 1
    · have t1 : decide (s < 1) = true := by simpa using g1
      clear g g1
      go_enter Try.func44, Try.ntmps44
      go_wp2_with ((first
        | ((with_reducible refine at_bi ?_); (try refine w_yes _ _ _ rfl rfl rfl ?_); refine i_len _ rfl rfl (v := v) rfl (h0.out.ext hX) ?_)
        | fail) <;> (try simp only [Act.put, List.setIfInBounds_toArray, List.set_cons_zero, List.set_cons_succ]))
      go_ret
      exact Keep.intro ⟨rfl, Ext.refl _⟩
    have t1 : decide (s < 1) = false := by simpa using g1
    by_cases g2 : (l.length : Int) < s
    · have t2 : decide ((l.length : Int) < s) = true := by simpa using g2
      clear g g1 g2
      go_enter Try.func44, Try.ntmps44
      go_wp2_with ((first
        | ((with_reducible refine at_bi ?_); (try refine w_yes _ _ _ rfl rfl rfl ?_); refine i_len _ rfl rfl (v := v) rfl (h0.out.ext hX) ?_)
        | fail) <;> (try simp only [Act.put, List.setIfInBounds_toArray, List.set_cons_zero, List.set_cons_succ]))
      go_ret
      exact Keep.intro ⟨rfl, Ext.refl _⟩
    have t2 : decide ((l.length : Int) < s) = false := by simpa using g2
    by_cases g3 : n < 0
    · have t3 : decide (n < 0) = true := by simpa using g3
      clear g g1 g2 g3
      go_enter Try.func44, Try.ntmps44
      go_wp2_with ((first
        | ((with_reducible refine at_bi ?_); (try refine w_yes _ _ _ rfl rfl rfl ?_); refine i_len _ rfl rfl (v := v) rfl (h0.out.ext hX) ?_)
        | fail) <;> (try simp only [Act.put, List.setIfInBounds_toArray, List.set_cons_zero, List.set_cons_succ]))
      go_ret
      exact Keep.intro ⟨rfl, Ext.refl _⟩
    have t3 : decide (n < 0) = false := by simpa using g3
    have t4 : decide (6 < n) = true := by simp; omega
    clear g g1 g2 g3
    go_enter Try.func44, Try.ntmps44
    go_wp2_with ((first
      | ((with_reducible refine at_bi ?_); (try refine w_yes _ _ _ rfl rfl rfl ?_); refine i_len _ rfl rfl (v := v) rfl (h0.out.ext hX) ?_)
      | fail) <;> (try simp only [Act.put, List.setIfInBounds_toArray, List.set_cons_zero, List.set_cons_succ]))
    go_ret
    exact Keep.intro ⟨rfl, Ext.refl _⟩
end Go.Proofs.Ytdoeoncmhaihbaa
