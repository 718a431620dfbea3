/- The contracts of the document's own answers: neaptideref01.Num and ReadNum. -/
import Derived.Test.YtabbgnlabiakoaaText
import Derived.Test.YtabbgnlabiakoaaCutk
namespace Go.Proofs.Ytabbgnlabiakoaa
open Go.RowKit

set_option maxRecDepth 100000 in
set_option maxHeartbeats 400000 in
theorem refNum_any (x : Nat) (w : World) (hx : W64 x) :
    Calls Try.prog 31 #[.int .u64 x] w fun e w' => ∃ v', e = .returned v' ∧ OwnB w.heap.size w' v' (numL x) ∧ Ext w w' := by
  refine calls_keep ?_
  have hx10 := numL_len10 hx
  have HX := hide_ hx
  clear hx
  go_enter Try.func31, Try.ntmps31
  go_wp2
  go_loopw [0, 3] (fun n v' wr => ∃ (ys : List Nat) (m : Nat), n = .int .u64 m ∧ OwnB w.heap.size wr v' ys ∧ Hid (ys ++ numL m = numL x) ∧ Ext w wr ∧ ys.length ≤ 10 ∧ W64 m)
    (fun n _ _ => (intOf n).toNat)
  case atStart => exact ⟨[], x, rfl, own_empty, rfl, (Ext.refl _).alloc _, by simp, HX.out⟩
  case round =>
    obtain ⟨ys, m, rfl, ho, heq, hbw, hyl, hm64⟩ := hrel
    have hq64 : IntKind.u64.wrap ((m : Int) / 128) = (m : Int) / 128 := by
      have := wrapU64 (m / 128) (by unfold W64 at hm64; omega)
      simpa using this
    have hs := hbw.size
    have hbytes : ys.length + 1 ≤ 140737488355328 := by omega
    by_cases h128 : 128 ≤ m
    · have hz : ((m : Int) / 128 == 0) = false := by rw [beq_eq_false_iff_ne]; omega
      have hw8 : IntKind.u8.wrap ((m : Int) % 128 + 128) = (m : Int) % 128 + 128 := by simp [IntKind.wrap, IntKind.bits, IntKind.signed]; omega
      go_wp2_with (at_builtin; refine appb (.tmp 17) (.tmp 20) rfl rfl rfl rfl (ho.ext ((Ext.refl _).alloc _)) (byt_one (n := m % 128 + 128) (by omega)) hbytes (by simp; omega) ?_; intro v1 w1 ho1 hb1 hg1)
      go_roundw
      case rel =>
        refine ⟨ys ++ [m % 128 + 128], m / 128, by go_num, ho1, ?_, (show Below _ _ _ from hbw).trans ((((Below.refl _ _).alloc (by omega) _)).trans hb1), ?_, by unfold W64 at hm64 ⊢; omega⟩
        · have := heq.out; rw [numL_big h128] at this; unfold Hid; rw [← this]; simp
        · have := heq.out; rw [numL_big h128] at this; have := congrArg List.length this; simp at this ⊢; omega
      case measure => simp [intOf]; omega
    · have hz : ((m : Int) / 128 == 0) = true := by rw [beq_iff_eq]; omega
      go_wp2_with (at_builtin; refine appb (.tmp 13) (.tmp 15) rfl rfl rfl rfl (ho.ext ((Ext.refl _).alloc _)) (byt_one (n := m) (by omega)) hbytes (by simp; omega) ?_; intro v1 w1 ho1 hb1 hg1)
      go_ret
      refine Keep.intro ⟨v1, rfl, ?_, (show Below _ _ _ from hbw).trans ((((Below.refl _ _).alloc (by omega) _)).trans hb1)⟩
      have := heq.out; rw [numL_small (by omega)] at this; rw [← this]; exact ho1

theorem scan_nil_of {l : List Nat} {k acc : Nat} (h : rd l = scan k acc (l.drop k)) (hk : l.length ≤ k) : rd l = (0, 0) := by
  rw [h, List.drop_eq_nil_of_le hk, scan]

set_option maxRecDepth 100000 in
set_option maxHeartbeats 1600000 in
theorem refReadNum_own (v : Value) (l : List Nat) (w : World) (hl : ∀ x ∈ l, x < 256) (h : Byt w v l) (hlen : l.length ≤ 140737488355328) :
    Calls Try.prog 32 #[v] w fun e w' => ∃ v', e = .returned (.tuple #[.int .u64 (rd l).1, v', .int .i64 (rdErr l)]) ∧ OwnB w.heap.size w' v' (rdRest l) ∧ Ext w w' := by
  refine calls_keep ?_
  have no : rd l = (0, 0) → ∀ e w', e = .returned (.tuple #[.int .u64 0, .slice none 0 0, .int .i64 11]) → Ext w w' → Keep (fun e w' => ∃ v', e = .returned (.tuple #[.int .u64 (rd l).1, v', .int .i64 (rdErr l)]) ∧ OwnB w.heap.size w' v' (rdRest l) ∧ Ext w w') e w' := by
    intro h0 e w' he hx
    exact Keep.intro ⟨.slice none 0 0, by rw [he, rdErr, h0]; rfl, by rw [rdRest, h0]; exact OwnB.nil _ _, hx⟩
  have No := hide_ no
  clear no
  go_enter Try.func32, Try.ntmps32
  go_wp2
  go_loop [5, 6, 7] (fun n pl i => ∃ (k acc p : Nat), n = .int .u64 acc ∧ pl = .int .u64 p ∧ i = .int .i64 k ∧ k ≤ l.length ∧ k ≤ 10 ∧ Hid (acc < 128 ^ k) ∧ Hid (k ≤ 9 → p = 128 ^ k ∧ rd l = scan k acc (l.drop k)) ∧ Hid (k = 10 → rd l = (0, 0)))
    (fun _ _ i => l.length - (intOf i).toNat)
  case atStart => exact ⟨0, 0, 1, rfl, rfl, rfl, by omega, by omega, by simp [Hid], fun _ => ⟨rfl, rfl⟩, fun e => by omega⟩
  case round =>
    obtain ⟨k, acc, p, rfl, rfl, rfl, hk, hk10, hacc, hrd, hend⟩ := hrel
    by_cases hin : k < l.length ∧ k < 10
    · obtain ⟨hlt, h10⟩ := hin
      have hb := hl l[k] (List.getElem_mem hlt)
      obtain ⟨hp, hsc⟩ := hrd.out (by omega)
      rw [List.drop_eq_getElem_cons hlt] at hsc
      have Hsc := hide_ hsc
      have Hp := hide_ hp
      clear hsc hp
      obtain ⟨c, hc⟩ : ∃ c, l[k] = c := ⟨_, rfl⟩
      have t1 : (decide (k < l.length)) = true := by simpa using hlt
      by_cases h9 : k = 9 ∧ 1 < c % 128
      · have t9 : ((k : Int) == 9) = true := by simp [h9.1]
        have t2 : (decide (1 < (c : Int) % 128)) = true := by simp; omega
        have hz : rd l = (0, 0) := by rw [Hsc.out, scan, if_pos]; rw [hc]; exact ⟨h9.1, by omega⟩
        have Hz := hide_ hz
        clear hz h9
        go_wp2_with (first
          | (refine b_len _ rfl rfl rfl h ?_)
          | (refine b_idx _ _ k rfl rfl (v := v) rfl h rfl hlt ?_; intro ad had; rw [hc] at had))
        go_ret3
        exact No.out Hz.out _ _ rfl (Ext.refl _)
      · have h9' : k = 9 → c % 128 ≤ 1 := fun e => by omega
        have hmul : c % 128 * p < 18446744073709551616 ∧ acc + c % 128 * p < 18446744073709551616 := by
          rw [Hp.out]
          rcases Nat.lt_or_ge k 9 with h8 | h8
          · have h1 : 128 ^ (k + 1) ≤ 128 ^ 9 := Nat.pow_le_pow_right (by omega) h8
            have h2 := pow_step acc k c hacc.out
            omega
          · have hk9 : k = 9 := by omega
            have h2 : c % 128 * 128 ^ k ≤ 1 * 128 ^ k := Nat.mul_le_mul_right _ (h9' hk9)
            have h3 := hacc.out
            rw [hk9] at h2 h3 ⊢
            omega
        have w1 : IntKind.u64.wrap ((c : Int) % 128 * (p : Int)) = ((c % 128 * p : Nat) : Int) := by
          rw [show ((c : Int) % 128 * (p : Int)) = ((c % 128 * p : Nat) : Int) from by push_cast; rfl]
          exact wrapU64 _ hmul.1
        obtain ⟨q, hq⟩ : ∃ q : Nat, c % 128 * p = q := ⟨_, rfl⟩
        rw [hq] at w1 hmul
        have w2 : IntKind.u64.wrap ((acc : Int) + (q : Int)) = (acc : Int) + (q : Int) := by
          rw [show ((acc : Int) + (q : Int)) = ((acc + q : Nat) : Int) from by push_cast; rfl]
          exact wrapU64 _ hmul.2
        obtain ⟨p', hp'⟩ : ∃ p' : Nat, IntKind.u64.wrap ((p : Int) * 128) = (p' : Int) ∧ (k < 9 → p' = 128 ^ (k + 1)) := by
          refine ⟨(p * 128) % 18446744073709551616, ?_, fun hk9 => ?_⟩
          · simp [IntKind.wrap, IntKind.bits, IntKind.signed]
          · rw [Hp.out, ← Nat.pow_succ]
            have h1 : 128 ^ (k + 1) ≤ 128 ^ 9 := Nat.pow_le_pow_right (by omega) (by omega)
            exact Nat.mod_eq_of_lt (Nat.lt_of_le_of_lt h1 (by decide))
        obtain ⟨w3, hpn⟩ := hp'
        have Hpn := hide_ hpn
        have HQ := hide_ hq
        have HM := hide_ hmul
        clear hpn hq hmul
        by_cases h128 : 128 ≤ c
        · have t3 : (decide ((c : Int) < 128)) = false := by simp; omega
          have hround : ∃ (k' acc' p'' : Nat), Value.int .u64 ((acc : Int) + (q : Int)) = .int .u64 acc' ∧ Value.int .u64 (p' : Int) = .int .u64 p'' ∧ Value.int .i64 ((k : Int) + 1) = .int .i64 k' ∧ k' ≤ l.length ∧ k' ≤ 10 ∧ Hid (acc' < 128 ^ k') ∧ Hid (k' ≤ 9 → p'' = 128 ^ k' ∧ rd l = scan k' acc' (l.drop k')) ∧ Hid (k' = 10 → rd l = (0, 0)) := by
            refine ⟨k + 1, acc + q, p', by go_num, rfl, by go_num, by omega, by omega, ?_, ?_, ?_⟩
            · have := pow_step acc k c hacc.out
              rw [← HQ.out, Hp.out]; exact this
            · intro hk9
              refine ⟨Hpn.out (by omega), ?_⟩
              rw [Hsc.out, scan, hc, if_neg (by omega), if_pos h128, ← HQ.out, Hp.out]
            · intro hk9
              rw [Hsc.out, scan, hc, if_pos (by omega)]
          have HR := hide_ hround
          clear hround
          by_cases e9 : k = 9
          · have t9 : ((k : Int) == 9) = true := by simp [e9]
            have t2 : (decide (1 < (c : Int) % 128)) = false := by have := h9' e9; simp; omega
            clear h9 h9' e9
            go_wp2_with (first
              | (refine b_len _ rfl rfl rfl h ?_)
              | (refine b_idx _ _ k rfl rfl (v := v) rfl h rfl hlt ?_; intro ad had; rw [hc] at had))
            refine ⟨?_, by simp [intOf]; omega⟩
            obtain ⟨k', acc', p'', e1, e2, e3, r⟩ := HR.out
            exact ⟨k', acc', p'', e1, e2, e3, r⟩
          · have t9 : ((k : Int) == 9) = false := by rw [beq_eq_false_iff_ne]; omega
            clear h9 h9' e9
            go_wp2_with (first
              | (refine b_len _ rfl rfl rfl h ?_)
              | (refine b_idx _ _ k rfl rfl (v := v) rfl h rfl hlt ?_; intro ad had; rw [hc] at had))
            refine ⟨?_, by simp [intOf]; omega⟩
            obtain ⟨k', acc', p'', e1, e2, e3, r⟩ := HR.out
            exact ⟨k', acc', p'', e1, e2, e3, r⟩
        · have t3 : (decide ((c : Int) < 128)) = true := by simp; omega
          have hc128 : c % 128 = c := by omega
          have hq' : acc + q = acc + c * 128 ^ k := by rw [← HQ.out, Hp.out, hc128]
          by_cases h0 : c = 0 ∧ 0 < k
          · have hz : rd l = (0, 0) := by rw [Hsc.out, scan, hc, if_neg (by omega), if_neg h128, if_pos h0]
            have Hz := hide_ hz
            have hlen2 : (numL (acc + q)).length ≤ k := by
              have := numL_len (k - 1) (acc + q) (by rw [show k - 1 + 1 = k from by omega, hq', h0.1]; have := hacc.out; omega)
              omega
            have tn : (((numL (acc + q)).length : Int) != (k : Int) + 1) = true := by rw [bne_iff_ne]; omega
            have hq64 : W64 (acc + q) := HM.out.2
            clear hz hlen2
            by_cases e9 : k = 9
            · have t9 : ((k : Int) == 9) = true := by simp [e9]
              have t2 : (decide (1 < (c : Int) % 128)) = false := by have := h9' e9; simp; omega
              clear h9 h9' e9 h0 hq' hc128
              go_wp2_with (first
                | (go_at_call 31; refine (refNum_any (acc + q) _ hq64).mono ?_; rintro e w4 ⟨v4, rfl, ho4, hx4⟩; have H4 := ho4.byt; have H := h.ext hx4; clear ho4)
                | (refine b_len (.tmp 46) rfl rfl rfl H4 ?_)
                | (refine b_len _ rfl rfl rfl h ?_)
                | (refine b_idx _ _ k rfl rfl (v := v) rfl h rfl hlt ?_; intro ad had; rw [hc] at had))
              go_ret3
              exact No.out Hz.out _ _ rfl hx4
            · have t9 : ((k : Int) == 9) = false := by rw [beq_eq_false_iff_ne]; omega
              clear h9 h9' e9 h0 hq' hc128
              go_wp2_with (first
                | (go_at_call 31; refine (refNum_any (acc + q) _ hq64).mono ?_; rintro e w4 ⟨v4, rfl, ho4, hx4⟩; have H4 := ho4.byt; have H := h.ext hx4; clear ho4)
                | (refine b_len (.tmp 46) rfl rfl rfl H4 ?_)
                | (refine b_len _ rfl rfl rfl h ?_)
                | (refine b_idx _ _ k rfl rfl (v := v) rfl h rfl hlt ?_; intro ad had; rw [hc] at had))
              go_ret3
              exact No.out Hz.out _ _ rfl hx4
          · have hy : rd l = (acc + q, k + 1) := by rw [Hsc.out, scan, hc, if_neg (by omega), if_neg h128, if_neg h0, hq']
            have hlen2 : (numL (acc + q)).length = k + 1 := by
              have h2 := (rd_some hl (by rw [hy]; simp)).2.1
              rw [hy] at h2; exact h2.symm
            have tn : (((numL (acc + q)).length : Int) != (k : Int) + 1) = false := by rw [hlen2]; simp
            have Hy := hide_ hy
            have hq64 : W64 (acc + q) := HM.out.2
            have hk1 : k + 1 ≤ l.length := by omega
            have hb0 : ([] : List Nat).length + (l.drop (k + 1)).length ≤ 140737488355328 := by simp; omega
            clear hy hlen2
            by_cases e9 : k = 9
            · have t9 : ((k : Int) == 9) = true := by simp [e9]
              have t2 : (decide (1 < (c : Int) % 128)) = false := by have := h9' e9; simp; omega
              clear h9 h9' e9 h0 hq' hc128
              go_wp2_with (first
                | (go_at_call 31; refine (refNum_any (acc + q) _ hq64).mono ?_; rintro e w4 ⟨v4, rfl, ho4, hx4⟩; have H4 := ho4.byt; have H := h.ext hx4; clear ho4)
                | (refine b_len (.tmp 46) rfl rfl rfl H4 ?_)
                | (refine b_len _ rfl rfl rfl h ?_)
                | (refine b_idx _ _ k rfl rfl (v := v) rfl h rfl hlt ?_; intro ad had; rw [hc] at had)
                | (refine b_from (.tmp 53) (.tmp 55) (k + 1) rfl rfl (v := v) rfl (H.ext ((Ext.refl _).alloc _)) rfl hk1 ?_; intro v5 H5)
                | (at_builtin; refine appb (.tmp 52) (.tmp 56) rfl rfl rfl rfl own_empty H5 hb0 (by simp) ?_; intro v6 w6 ho6 hb6 hg6; have H6 := ho6.mono hx4.size; have hx6 := ext_alloc_below hb6; clear ho6 hb6 hg6 H5))
              go_ret3
              refine Keep.intro ⟨_, ?_, by rw [rdRest, Hy.out]; exact H6, hx4.trans hx6⟩
              rw [rdErr, Hy.out]; rfl
            · have t9 : ((k : Int) == 9) = false := by rw [beq_eq_false_iff_ne]; omega
              clear h9 h9' e9 h0 hq' hc128
              go_wp2_with (first
                | (go_at_call 31; refine (refNum_any (acc + q) _ hq64).mono ?_; rintro e w4 ⟨v4, rfl, ho4, hx4⟩; have H4 := ho4.byt; have H := h.ext hx4; clear ho4)
                | (refine b_len (.tmp 46) rfl rfl rfl H4 ?_)
                | (refine b_len _ rfl rfl rfl h ?_)
                | (refine b_idx _ _ k rfl rfl (v := v) rfl h rfl hlt ?_; intro ad had; rw [hc] at had)
                | (refine b_from (.tmp 53) (.tmp 55) (k + 1) rfl rfl (v := v) rfl (H.ext ((Ext.refl _).alloc _)) rfl hk1 ?_; intro v5 H5)
                | (at_builtin; refine appb (.tmp 52) (.tmp 56) rfl rfl rfl rfl own_empty H5 hb0 (by simp) ?_; intro v6 w6 ho6 hb6 hg6; have H6 := ho6.mono hx4.size; have hx6 := ext_alloc_below hb6; clear ho6 hb6 hg6 H5))
              go_ret3
              refine Keep.intro ⟨_, ?_, by rw [rdRest, Hy.out]; exact H6, hx4.trans hx6⟩
              rw [rdErr, Hy.out]; rfl
    · have hz : rd l = (0, 0) := by
        by_cases e10 : k = 10
        · exact hend.out e10
        · obtain ⟨-, hsc⟩ := hrd.out (by omega)
          exact scan_nil_of hsc (by omega)
      have Hz := hide_ hz
      clear hz
      by_cases e : k < l.length
      · have t1 : (decide (k < l.length)) = true := by simpa using e
        have t2 : (decide ((k : Int) < 10)) = false := by simp; omega
        clear hin
        go_wp2_with (first
          | (refine b_len _ rfl rfl rfl h ?_))
        go_ret3
        exact No.out Hz.out _ _ rfl (Ext.refl _)
      · have t1 : (decide (k < l.length)) = false := by simpa using e
        clear hin
        go_wp2_with (first
          | (refine b_len _ rfl rfl rfl h ?_))
        go_ret3
        exact No.out Hz.out _ _ rfl (Ext.refl _)

theorem refReadNum_any (v : Value) (l : List Nat) (w : World) (hl : ∀ x ∈ l, x < 256) (h : Byt w v l) (hlen : l.length ≤ 140737488355328) :
    Calls Try.prog 32 #[v] w fun e w' => ∃ v', e = .returned (.tuple #[.int .u64 (rd l).1, v', .int .i64 (rdErr l)]) ∧ Byt w' v' (rdRest l) ∧ Ext w w' :=
  (refReadNum_own v l w hl h hlen).mono fun _ _ ⟨v', he, ho, hx⟩ => ⟨v', he, ho.byt, hx⟩
end Go.Proofs.Ytabbgnlabiakoaa
