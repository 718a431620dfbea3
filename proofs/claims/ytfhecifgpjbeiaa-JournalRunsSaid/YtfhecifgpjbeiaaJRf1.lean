/- The contract of the document's Bytes (a journal's record as bytes). -/
import Derived.Test.YtfhecifgpjbeiaaJrn4
import Derived.Test.YtfhecifgpjbeiaaRefText
namespace Go.Proofs.Ytfhecifgpjbeiaa
open Go.RowKit

theorem refNums_ok {w : World} {v : Value} {r : RecD} (h : r.Ok) (hv : Ints w v r.nums) : Calls Try.prog 34 #[v] w fun e w' => ∃ v', e = .returned (.tuple #[v', .int .i64 0]) ∧ OwnB w.heap.size w' v' (nuL r.nums) ∧ Ext w w' := by
  refine (refNums_any v r.nums w (r.i64 h) hv).mono ?_
  rintro e w' ⟨v', rfl, h1, h2⟩
  exact ⟨v', by rw [nuErr, if_pos (r.nuOk h)]; rfl, by rw [nuB, if_pos (r.nuOk h)] at h1; exact h1, h2⟩
theorem refText_ok {w : World} {v : Value} {l : List Nat} (h : l.length ≤ 4096) (hv : Byt w v l) : Calls Try.prog 35 #[v] w fun e w' => ∃ v', e = .returned (.tuple #[v', .int .i64 0]) ∧ OwnB w.heap.size w' v' (txL l) ∧ Ext w w' := by
  refine (refText_any v l w hv).mono ?_
  rintro e w' ⟨v', rfl, h1, h2⟩
  exact ⟨v', by rw [txErr, if_neg (by omega)]; rfl, h1, h2⟩

set_option maxRecDepth 100000 in
theorem num_any (n : Int) (w : World) : Calls Try.prog 33 #[.int .i64 n] w fun e w' => e = .returned (.bool (decide (N30 n))) ∧ w = w' := by
  refine calls_keep ?_
  by_cases h1 : -1 ≤ n
  · by_cases h2 : n ≤ 1073741824
    · have t1 : decide (-1 ≤ n) = true := by simpa using h1
      have t2 : decide (n ≤ 1073741824) = true := by simpa using h2
      have e := hide_ (show decide (N30 n) = true from decide_eq_true ⟨h1, h2⟩)
      clear h1 h2
      go_enter Try.func33, Try.ntmps33
      go_wp2
      go_ret
      exact Keep.intro ⟨by rw [e.out]; rfl, rfl⟩
    · have t1 : decide (-1 ≤ n) = true := by simpa using h1
      have t2 : decide (n ≤ 1073741824) = false := by simpa using h2
      have e := hide_ (show decide (N30 n) = false from decide_eq_false fun h => h2 h.2)
      clear h1 h2
      go_enter Try.func33, Try.ntmps33
      go_wp2
      go_ret
      exact Keep.intro ⟨by rw [e.out]; rfl, rfl⟩
  · have t1 : decide (-1 ≤ n) = false := by simpa using h1
    have e := hide_ (show decide (N30 n) = false from decide_eq_false fun h => h1 h.1)
    clear h1
    go_enter Try.func33, Try.ntmps33
    go_wp2
    go_ret
    exact Keep.intro ⟨by rw [e.out]; rfl, rfl⟩

set_option maxRecDepth 100000 in
set_option maxHeartbeats 1600000 in
theorem refBytes_any {w : World} {row : List Value} {r : RecD} (h : RecR w row r) : Calls Try.prog 12 #[.agg row.toArray] w fun e w' => ∃ v', e = .returned (.tuple #[v', .int .i64 (jErr r : Nat)]) ∧ OwnB w.heap.size w' v' (jB r) ∧ Ext w w' := by
  obtain ⟨⟨u, rfl, hu⟩, hraw⟩ := h
  refine calls_keep ?_
  by_cases hok : r.Ok
  · have E1 := hide_ (show jErr r = 0 from if_pos hok)
    have E2 := hide_ (show jB r = r.bs from if_pos hok)
    have dk := hide_ (decide_eq_true hok.1)
    have di := hide_ (decide_eq_true hok.2.1)
    have dv := hide_ (decide_eq_true hok.2.2.1)
    have dx := hide_ (decide_eq_true hok.2.2.2.1)
    have t5 : decide ((1024 : Int) < (r.t.length : Int)) = false := decide_eq_false (by have := hok.2.2.2.2; omega)
    have hlen := hide_ (show (nuL r.nums).length + (txL r.t).length ≤ 140737488355328 from by have := r.pay_len hok; simp only [RecD.pay, List.length_append] at this; omega)
    replace hok := hide_ hok
    go_enter Try.func12, Try.ntmps12
    go_wp2_with ((first
      | (refine w_box _ [.int .i64 r.k, .int .i64 r.i, .int .i64 r.v, .int .i64 r.x, u] rfl rfl rfl rfl ?_; intro g1 w1 hg1 hX f1)
      | ((try refine w_yes _ _ _ rfl rfl rfl ?_); go_at_call 33; ((with_reducible refine (num_any _ _).mono ?_); rintro e w2 ⟨rfl, rfl⟩; simp only [dk.out, di.out, dv.out, dx.out]))
      | ((try refine w_yes _ _ _ rfl rfl rfl ?_); refine b_len _ rfl rfl (v := u) rfl (hu.ext hX) ?_)
      | ((try refine w_yes _ _ _ rfl rfl rfl ?_); refine w_field Try.stRec _ _ _ rfl rfl rfl (by omega) ?_)
      | ((try refine w_yes _ _ _ rfl rfl rfl ?_); refine w_fload _ rfl rfl rfl f1 rfl (agg_of (by kernel_rfl)) ?_)
      | (refine w_new Try.elI (i64s r.nums) rfl rfl rfl (i64s_cells _) rfl (by omega) ?_; intro v2 w3 hx3 o2; replace o2 : OwnI _ w3 v2 r.nums := o2; replace f1 := f1.ext hx3; replace hX := hX.trans hx3; clear hx3)
      | (go_at_call 34; refine (refNums_ok hok.out o2.ints).mono ?_; rintro e w4 ⟨v3, rfl, o3, hx4⟩; replace o3 := o3.mono hX.size; replace f1 := f1.ext hx4; replace hX := hX.trans hx4; clear o2 hx4)
      | (refine appb _ _ rfl rfl rfl rfl o3 b4 hlen.out hX.size ?_; intro v5 w6 o5 hb6 hg6; replace o5 : OwnB _ w6 v5 r.pay := o5; replace hX := hX.trans' hb6; have b5 := o5.byt; clear o3 b4 hb6 hg6 o5)
      | (go_at_call 35; refine (refText_ok (by have := r.pay_len hok.out; omega) b5).mono ?_; rintro e w7 ⟨v6, rfl, o6, hx7⟩; replace o6 := o6.mono hX.size; replace hX := hX.trans hx7; clear b5 hx7)
      | (go_at_call 35; refine (refText_ok (by have := hok.out.2.2.2.2; omega) (hu.ext hX)).mono ?_; rintro e w5 ⟨v4, rfl, o4, hx5⟩; have b4 := o4.byt; replace o3 := o3.ext hx5; replace f1 := f1.ext hx5; replace hX := hX.trans hx5; clear o4 hx5)
      | fail) <;> (try simp only [Act.put, List.setIfInBounds_toArray, List.set_cons_zero, List.set_cons_succ]))
    go_ret2
    exact Keep.intro ⟨_, by rw [E1.out]; rfl, by rw [E2.out]; exact o6, hX⟩
  · have E1 := hide_ (show jErr r = 51 from if_neg hok)
    have E2 := hide_ (show jB r = [] from if_neg hok)
    by_cases hk : N30 r.k
    rotate_left
    · have dk := hide_ (decide_eq_false hk)
      have di : Hid (decide (N30 r.k) = false) := dk
      have dv : Hid (decide (N30 r.k) = false) := dk
      have dx : Hid (decide (N30 r.k) = false) := dk
      clear hok
      go_enter Try.func12, Try.ntmps12
      go_wp2_with ((first
        | (refine w_box _ [.int .i64 r.k, .int .i64 r.i, .int .i64 r.v, .int .i64 r.x, u] rfl rfl rfl rfl ?_; intro g1 w1 hg1 hX f1)
        | ((try refine w_yes _ _ _ rfl rfl rfl ?_); go_at_call 33; ((with_reducible refine (num_any _ _).mono ?_); rintro e w2 ⟨rfl, rfl⟩; simp only [dk.out, di.out, dv.out, dx.out]))
        | ((try refine w_yes _ _ _ rfl rfl rfl ?_); refine b_len _ rfl rfl (v := u) rfl (hu.ext hX) ?_)
        | ((try refine w_yes _ _ _ rfl rfl rfl ?_); refine w_field Try.stRec _ _ _ rfl rfl rfl (by omega) ?_)
        | ((try refine w_yes _ _ _ rfl rfl rfl ?_); refine w_fload _ rfl rfl rfl f1 rfl (agg_of (by kernel_rfl)) ?_)
        | fail) <;> (try simp only [Act.put, List.setIfInBounds_toArray, List.set_cons_zero, List.set_cons_succ]))
      go_ret2
      exact Keep.intro ⟨_, by rw [E1.out]; rfl, by rw [E2.out]; exact OwnB.nil _ _, hX⟩
    have dk := hide_ (decide_eq_true hk)
    by_cases hi : N30 r.i
    rotate_left
    · have di := hide_ (decide_eq_false hi)
      have dv := dk
      have dx := dk
      clear hok
      go_enter Try.func12, Try.ntmps12
      go_wp2_with ((first
        | (refine w_box _ [.int .i64 r.k, .int .i64 r.i, .int .i64 r.v, .int .i64 r.x, u] rfl rfl rfl rfl ?_; intro g1 w1 hg1 hX f1)
        | ((try refine w_yes _ _ _ rfl rfl rfl ?_); go_at_call 33; ((with_reducible refine (num_any _ _).mono ?_); rintro e w2 ⟨rfl, rfl⟩; simp only [dk.out, di.out, dv.out, dx.out]))
        | ((try refine w_yes _ _ _ rfl rfl rfl ?_); refine b_len _ rfl rfl (v := u) rfl (hu.ext hX) ?_)
        | ((try refine w_yes _ _ _ rfl rfl rfl ?_); refine w_field Try.stRec _ _ _ rfl rfl rfl (by omega) ?_)
        | ((try refine w_yes _ _ _ rfl rfl rfl ?_); refine w_fload _ rfl rfl rfl f1 rfl (agg_of (by kernel_rfl)) ?_)
        | fail) <;> (try simp only [Act.put, List.setIfInBounds_toArray, List.set_cons_zero, List.set_cons_succ]))
      go_ret2
      exact Keep.intro ⟨_, by rw [E1.out]; rfl, by rw [E2.out]; exact OwnB.nil _ _, hX⟩
    have di := hide_ (decide_eq_true hi)
    by_cases hv : N30 r.v
    rotate_left
    · have dv := hide_ (decide_eq_false hv)
      have dx := dk
      clear hok
      go_enter Try.func12, Try.ntmps12
      go_wp2_with ((first
        | (refine w_box _ [.int .i64 r.k, .int .i64 r.i, .int .i64 r.v, .int .i64 r.x, u] rfl rfl rfl rfl ?_; intro g1 w1 hg1 hX f1)
        | ((try refine w_yes _ _ _ rfl rfl rfl ?_); go_at_call 33; ((with_reducible refine (num_any _ _).mono ?_); rintro e w2 ⟨rfl, rfl⟩; simp only [dk.out, di.out, dv.out, dx.out]))
        | ((try refine w_yes _ _ _ rfl rfl rfl ?_); refine b_len _ rfl rfl (v := u) rfl (hu.ext hX) ?_)
        | ((try refine w_yes _ _ _ rfl rfl rfl ?_); refine w_field Try.stRec _ _ _ rfl rfl rfl (by omega) ?_)
        | ((try refine w_yes _ _ _ rfl rfl rfl ?_); refine w_fload _ rfl rfl rfl f1 rfl (agg_of (by kernel_rfl)) ?_)
        | fail) <;> (try simp only [Act.put, List.setIfInBounds_toArray, List.set_cons_zero, List.set_cons_succ]))
      go_ret2
      exact Keep.intro ⟨_, by rw [E1.out]; rfl, by rw [E2.out]; exact OwnB.nil _ _, hX⟩
    have dv := hide_ (decide_eq_true hv)
    by_cases hx : N30 r.x
    rotate_left
    · have dx := hide_ (decide_eq_false hx)
      clear hok
      go_enter Try.func12, Try.ntmps12
      go_wp2_with ((first
        | (refine w_box _ [.int .i64 r.k, .int .i64 r.i, .int .i64 r.v, .int .i64 r.x, u] rfl rfl rfl rfl ?_; intro g1 w1 hg1 hX f1)
        | ((try refine w_yes _ _ _ rfl rfl rfl ?_); go_at_call 33; ((with_reducible refine (num_any _ _).mono ?_); rintro e w2 ⟨rfl, rfl⟩; simp only [dk.out, di.out, dv.out, dx.out]))
        | ((try refine w_yes _ _ _ rfl rfl rfl ?_); refine b_len _ rfl rfl (v := u) rfl (hu.ext hX) ?_)
        | ((try refine w_yes _ _ _ rfl rfl rfl ?_); refine w_field Try.stRec _ _ _ rfl rfl rfl (by omega) ?_)
        | ((try refine w_yes _ _ _ rfl rfl rfl ?_); refine w_fload _ rfl rfl rfl f1 rfl (agg_of (by kernel_rfl)) ?_)
        | fail) <;> (try simp only [Act.put, List.setIfInBounds_toArray, List.set_cons_zero, List.set_cons_succ]))
      go_ret2
      exact Keep.intro ⟨_, by rw [E1.out]; rfl, by rw [E2.out]; exact OwnB.nil _ _, hX⟩
    have dx := hide_ (decide_eq_true hx)
    have t5 : decide ((1024 : Int) < (r.t.length : Int)) = true := decide_eq_true (by
      rcases Nat.lt_or_ge 1024 r.t.length with h | h
      · omega
      · exact absurd ⟨hk, hi, hv, hx, h⟩ hok)
    clear hk hi hv hx
    clear hok
    go_enter Try.func12, Try.ntmps12
    go_wp2_with ((first
      | (refine w_box _ [.int .i64 r.k, .int .i64 r.i, .int .i64 r.v, .int .i64 r.x, u] rfl rfl rfl rfl ?_; intro g1 w1 hg1 hX f1)
      | ((try refine w_yes _ _ _ rfl rfl rfl ?_); go_at_call 33; ((with_reducible refine (num_any _ _).mono ?_); rintro e w2 ⟨rfl, rfl⟩; simp only [dk.out, di.out, dv.out, dx.out]))
      | ((try refine w_yes _ _ _ rfl rfl rfl ?_); refine b_len _ rfl rfl (v := u) rfl (hu.ext hX) ?_)
      | ((try refine w_yes _ _ _ rfl rfl rfl ?_); refine w_field Try.stRec _ _ _ rfl rfl rfl (by omega) ?_)
      | ((try refine w_yes _ _ _ rfl rfl rfl ?_); refine w_fload _ rfl rfl rfl f1 rfl (agg_of (by kernel_rfl)) ?_)
      | fail) <;> (try simp only [Act.put, List.setIfInBounds_toArray, List.set_cons_zero, List.set_cons_succ]))
    go_ret2
    exact Keep.intro ⟨_, by rw [E1.out]; rfl, by rw [E2.out]; exact OwnB.nil _ _, hX⟩
end Go.Proofs.Ytfhecifgpjbeiaa
