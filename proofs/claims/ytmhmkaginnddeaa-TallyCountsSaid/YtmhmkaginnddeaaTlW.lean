/- The document's Who and All. -/
import Derived.Test.YtmhmkaginnddeaaTlV
namespace Go.Proofs.Ytmhmkaginnddeaa
set_option maxRecDepth 100000
open Go.RowKit

set_option maxRecDepth 100000 in
set_option maxHeartbeats 3200000 in
theorem WhoR_any {w : World} {sv u : Value} {t : List Int} {L : List VtD} {k v x : Int} (h : Ty w sv u t L) (hlen0 : L.length ≤ 100000) (ht : t.length ≤ 7) {R : List Int} (hR0 : (ofV L).who t.length k v x = R) :
    Calls Try.prog 24 #[.agg #[sv, u], .int .i64 k, .int .i64 v, .int .i64 x] w fun e w' => ∃ z, e = .returned z ∧ OwnI w.heap.size w' z R ∧ Ext w w' := by
  refine calls_keep ?_
  have hT := hide_ h
  have hlen := hide_ hlen0
  have ht7 := hide_ ht
  have hR := hide_ (show picks ((ofV L).has k v x) t.length = R from hR0)
  have hone := hide_ (show ∀ z ∈ [sv, u], z.oneCell' = true from by intro z hz; simp at hz; rcases hz with rfl | rfl; exact Sl.one' h.1; exact h.2.one)
  have hX := Ext.refl w
  clear h hlen0 ht hR0
  go_enter Try.func24, Try.ntmps24
  go_wp2_with ((first
    | ((with_reducible refine at_box ?_); refine w_box _ [sv, u] rfl rfl rfl rfl ?_; intro b4 w1 hb4 hx f4; have h4l := hide_ f4.lt; have hw1 := hide_ hx.size; replace hX := hX.trans hx; clear hx)
    | ((with_reducible refine at_lit ?_); refine w_new Try.elI (i64s []) rfl rfl rfl (i64s_cells _) rfl (by omega) ?_; intro v13 w2 hx o9; replace o9 : OwnI w1.heap.size w2 v13 [] := o9; replace f4 := f4.ext hx; have hs1 := hide_ hx.size; replace hX := hX.trans hx; clear hx)
    | ((with_reducible refine at_field ?_); refine w_field Try.stTy _ _ _ rfl rfl rfl (by omega) ?_)
    | ((with_reducible refine at_load ?_); refine w_fload _ rfl rfl rfl f4 rfl (agg_of (by kernel_rfl)) ?_)
    | ((with_reducible refine at_bi ?_); refine i_len _ rfl rfl rfl (hT.out.1.ext hX) ?_)
    | fail) <;> (try simp only [Act.put, List.setIfInBounds_toArray, List.set_cons_zero, List.set_cons_succ]))
  go_loopw [17, 9] (fun ui ul wr => ∃ i : Nat, ui = .int .i64 i ∧ i ≤ t.length ∧ OwnI w1.heap.size wr ul (picks ((ofV L).has k v x) i) ∧ Fs wr b4 [sv, u] ∧ Hid (w1.heap.size ≤ wr.heap.size) ∧ Ext w wr) (fun i _ _ => t.length - (intOf i).toNat)
  case atStart => exact ⟨0, rfl, Nat.zero_le _, o9, f4, hs1.out, hX⟩
  case round =>
    clear hX o9 f4
    obtain ⟨i, rfl, hi, o9, f4, hws, hX⟩ := hrel
    by_cases hlt0 : i < t.length
    · have hlt := hide_ hlt0
      have tl : decide (i < t.length) = true := decide_eq_true hlt0
      have hi7 : i ≤ 7 := by have := ht7.out; omega
      obtain ⟨r, hr0⟩ : ∃ r, lookV L k v (i : Int) = r := ⟨_, rfl⟩
      have hr := hide_ hr0
      rw [lookV_nat] at hr0
      obtain ⟨M, hM0⟩ : ∃ M, picks ((ofV L).has k v x) i = M := ⟨_, rfl⟩
      have hstep := hide_ (show picks ((ofV L).has k v x) (i + 1) = M ++ (if ((ofV L).has k v x) i = true then [(i : Int)] else []) from by rw [← hM0]; exact picks_succ _ _)
      have hMl := hide_ (show M.length ≤ 7 from by rw [← hM0]; have := picks_len ((ofV L).has k v x) i; omega)
      rw [hM0] at o9
      clear hlt0 hM0
      cases r with
      | none =>
        have hb := hide_ (show picks ((ofV L).has k v x) (i + 1) = M from by rw [hstep.out, if_neg (by intro hh; rw [Tab.has_iff, hr0] at hh; cases hh), List.append_nil])
        go_wp2_with ((first
          | go_big_skip
          | ((with_reducible refine at_load ?_); refine w_aload Try.stTy _ rfl rfl rfl f4 rfl ?_)
          | (go_at_call 18; refine (Of_any (hT.out.ext hX) hlen.out hr.out).mono ?_; rintro e w4 ⟨he, hx⟩; replace he : e = .returned (.tuple #[.int .i64 0, .bool false]) := he; subst he; replace f4 := f4.ext hx; replace o9 := o9.ext hx; replace hws := hide_ (Nat.le_trans hws.out hx.size); replace hX := hX.trans hx; clear hx)
          | ((with_reducible refine at_ext ?_); refine wpList_runs rfl (runs_extract rfl rfl rfl) ?_; simp only [List.getElem_toArray, List.getElem_cons_succ, List.getElem_cons_zero])
          | fail) <;> (try simp only [Act.put, List.setIfInBounds_toArray, List.set_cons_zero, List.set_cons_succ]))
        go_roundw
        case rel => exact ⟨i + 1, by go_num, by have := hlt.out; omega, by rw [hb.out]; exact o9, f4, hws, hX⟩
        case measure => have := hlt.out; simp [intOf]; omega
      | some y =>
        cases c1 : (y == x)
        · have hb := hide_ (show picks ((ofV L).has k v x) (i + 1) = M from by rw [hstep.out, if_neg (by intro hh; rw [Tab.has_iff, hr0] at hh; simp at hh; simp [hh] at c1), List.append_nil])
          go_wp2_with ((first
  | go_big_skip
  | ((with_reducible refine at_load ?_); refine w_aload Try.stTy _ rfl rfl rfl f4 rfl ?_)
  | (go_at_call 18; refine (Of_any (hT.out.ext hX) hlen.out hr.out).mono ?_; rintro e w4 ⟨he, hx⟩; replace he : e = .returned (.tuple #[.int .i64 y, .bool true]) := he; subst he; replace f4 := f4.ext hx; replace o9 := o9.ext hx; replace hws := hide_ (Nat.le_trans hws.out hx.size); replace hX := hX.trans hx; clear hx)
  | ((with_reducible refine at_ext ?_); refine wpList_runs rfl (runs_extract rfl rfl rfl) ?_; simp only [List.getElem_toArray, List.getElem_cons_succ, List.getElem_cons_zero])
  | fail) <;> (try simp only [Act.put, List.setIfInBounds_toArray, List.set_cons_zero, List.set_cons_succ]))
          go_roundw
          case rel => exact ⟨i + 1, by go_num, by have := hlt.out; omega, by rw [hb.out]; exact o9, f4, hws, hX⟩
          case measure => have := hlt.out; simp [intOf]; omega
        · have hb := hide_ (show picks ((ofV L).has k v x) (i + 1) = M ++ [(i : Int)] from by rw [hstep.out, if_pos (by rw [Tab.has_iff, hr0]; simpa using c1)])
          go_wp2_with ((first
  | go_big_skip
  | ((with_reducible refine at_load ?_); refine w_aload Try.stTy _ rfl rfl rfl f4 rfl ?_)
  | (go_at_call 18; refine (Of_any (hT.out.ext hX) hlen.out hr.out).mono ?_; rintro e w4 ⟨he, hx⟩; replace he : e = .returned (.tuple #[.int .i64 y, .bool true]) := he; subst he; replace f4 := f4.ext hx; replace o9 := o9.ext hx; replace hws := hide_ (Nat.le_trans hws.out hx.size); replace hX := hX.trans hx; clear hx)
  | ((with_reducible refine at_ext ?_); refine wpList_runs rfl (runs_extract rfl rfl rfl) ?_; simp only [List.getElem_toArray, List.getElem_cons_succ, List.getElem_cons_zero])
  | ((with_reducible refine at_lit ?_); refine w_new Try.elI (i64s [(i : Int)]) rfl rfl rfl (i64s_cells _) rfl (by omega) ?_; intro v36 w5 hx o36; replace o36 : OwnI _ w5 v36 [(i : Int)] := o36; replace f4 := f4.ext hx; replace o9 := o9.ext hx; replace hws := hide_ (Nat.le_trans hws.out hx.size); replace hX := hX.trans hx; clear hx)
  | ((with_reducible refine at_bi ?_); refine appi _ _ rfl rfl rfl rfl o9 o36.ints (by have := hMl.out; simp; omega) hws.out ?_; intro v37 w6 o37 hb3 _ _; replace f4 := f4.below hb3 h4l.out; replace hws := hide_ (Nat.le_trans hws.out hb3.size); replace hX := hX.trans' (hb3.mono hw1.out); clear hb3 o9 o36)
  | fail) <;> (try simp only [Act.put, List.setIfInBounds_toArray, List.set_cons_zero, List.set_cons_succ]))
          go_roundw
          case rel => exact ⟨i + 1, by go_num, by have := hlt.out; omega, by rw [hb.out]; exact o37, f4, hws, hX⟩
          case measure => have := hlt.out; simp [intOf]; omega
    · have hil : i = t.length := by omega
      have tl : decide (i < t.length) = false := decide_eq_false hlt0
      subst hil
      rw [hR.out] at o9
      clear hlt0
      go_wp2
      go_ret
      exact Keep.intro ⟨_, rfl, own_mono o9 hw1.out, hX⟩
set_option maxRecDepth 100000 in
set_option maxHeartbeats 3200000 in
theorem AllR_any {w : World} {sv u : Value} {t : List Int} {L : List VtD} {k v : Int} (h : Ty w sv u t L) (hlen0 : L.length ≤ 100000) (ht : t.length ≤ 7) {R : List Int} (hR0 : (ofV L).all t.length k v = R) :
    Calls Try.prog 25 #[.agg #[sv, u], .int .i64 k, .int .i64 v] w fun e w' => ∃ z, e = .returned z ∧ OwnI w.heap.size w' z R ∧ Ext w w' := by
  refine calls_keep ?_
  have hT := hide_ h
  have hlen := hide_ hlen0
  have ht7 := hide_ ht
  have hR := hide_ (show picks ((ofV L).any k v) t.length = R from hR0)
  have hone := hide_ (show ∀ z ∈ [sv, u], z.oneCell' = true from by intro z hz; simp at hz; rcases hz with rfl | rfl; exact Sl.one' h.1; exact h.2.one)
  have hX := Ext.refl w
  clear h hlen0 ht hR0
  go_enter Try.func25, Try.ntmps25
  go_wp2_with ((first
    | ((with_reducible refine at_box ?_); refine w_box _ [sv, u] rfl rfl rfl rfl ?_; intro b3 w1 hb3 hx f3; have h3l := hide_ f3.lt; have hw1 := hide_ hx.size; replace hX := hX.trans hx; clear hx)
    | ((with_reducible refine at_lit ?_); refine w_new Try.elI (i64s []) rfl rfl rfl (i64s_cells _) rfl (by omega) ?_; intro v13 w2 hx o9; replace o9 : OwnI w1.heap.size w2 v13 [] := o9; replace f3 := f3.ext hx; have hs1 := hide_ hx.size; replace hX := hX.trans hx; clear hx)
    | ((with_reducible refine at_field ?_); refine w_field Try.stTy _ _ _ rfl rfl rfl (by omega) ?_)
    | ((with_reducible refine at_load ?_); refine w_fload _ rfl rfl rfl f3 rfl (agg_of (by kernel_rfl)) ?_)
    | ((with_reducible refine at_bi ?_); refine i_len _ rfl rfl rfl (hT.out.1.ext hX) ?_)
    | fail) <;> (try simp only [Act.put, List.setIfInBounds_toArray, List.set_cons_zero, List.set_cons_succ]))
  go_loopw [15, 7] (fun ui ul wr => ∃ i : Nat, ui = .int .i64 i ∧ i ≤ t.length ∧ OwnI w1.heap.size wr ul (picks ((ofV L).any k v) i) ∧ Fs wr b3 [sv, u] ∧ Hid (w1.heap.size ≤ wr.heap.size) ∧ Ext w wr) (fun i _ _ => t.length - (intOf i).toNat)
  case atStart => exact ⟨0, rfl, Nat.zero_le _, o9, f3, hs1.out, hX⟩
  case round =>
    clear hX o9 f3
    obtain ⟨i, rfl, hi, o9, f3, hws, hX⟩ := hrel
    by_cases hlt0 : i < t.length
    · have hlt := hide_ hlt0
      have tl : decide (i < t.length) = true := decide_eq_true hlt0
      have hi7 : i ≤ 7 := by have := ht7.out; omega
      obtain ⟨r, hr0⟩ : ∃ r, lookV L k v (i : Int) = r := ⟨_, rfl⟩
      have hr := hide_ hr0
      rw [lookV_nat] at hr0
      obtain ⟨M, hM0⟩ : ∃ M, picks ((ofV L).any k v) i = M := ⟨_, rfl⟩
      have hstep := hide_ (show picks ((ofV L).any k v) (i + 1) = M ++ (if ((ofV L).any k v) i = true then [(i : Int)] else []) from by rw [← hM0]; exact picks_succ _ _)
      have hMl := hide_ (show M.length ≤ 7 from by rw [← hM0]; have := picks_len ((ofV L).any k v) i; omega)
      rw [hM0] at o9
      clear hlt0 hM0
      cases r with
      | none =>
        have hb := hide_ (show picks ((ofV L).any k v) (i + 1) = M from by rw [hstep.out, if_neg (by intro hh; unfold Tab.any at hh; rw [hr0] at hh; cases hh), List.append_nil])
        go_wp2_with ((first
          | go_big_skip
          | ((with_reducible refine at_load ?_); refine w_aload Try.stTy _ rfl rfl rfl f3 rfl ?_)
          | (go_at_call 18; refine (Of_any (hT.out.ext hX) hlen.out hr.out).mono ?_; rintro e w4 ⟨he, hx⟩; replace he : e = .returned (.tuple #[.int .i64 0, .bool false]) := he; subst he; replace f3 := f3.ext hx; replace o9 := o9.ext hx; replace hws := hide_ (Nat.le_trans hws.out hx.size); replace hX := hX.trans hx; clear hx)
          | ((with_reducible refine at_ext ?_); refine wpList_runs rfl (runs_extract rfl rfl rfl) ?_; simp only [List.getElem_toArray, List.getElem_cons_succ, List.getElem_cons_zero])
          | fail) <;> (try simp only [Act.put, List.setIfInBounds_toArray, List.set_cons_zero, List.set_cons_succ]))
        go_roundw
        case rel => exact ⟨i + 1, by go_num, by have := hlt.out; omega, by rw [hb.out]; exact o9, f3, hws, hX⟩
        case measure => have := hlt.out; simp [intOf]; omega
      | some y =>
        have hb := hide_ (show picks ((ofV L).any k v) (i + 1) = M ++ [(i : Int)] from by rw [hstep.out, if_pos (by unfold Tab.any; rw [hr0]; rfl)])
        go_wp2_with ((first
  | go_big_skip
  | ((with_reducible refine at_load ?_); refine w_aload Try.stTy _ rfl rfl rfl f3 rfl ?_)
  | (go_at_call 18; refine (Of_any (hT.out.ext hX) hlen.out hr.out).mono ?_; rintro e w4 ⟨he, hx⟩; replace he : e = .returned (.tuple #[.int .i64 y, .bool true]) := he; subst he; replace f3 := f3.ext hx; replace o9 := o9.ext hx; replace hws := hide_ (Nat.le_trans hws.out hx.size); replace hX := hX.trans hx; clear hx)
  | ((with_reducible refine at_ext ?_); refine wpList_runs rfl (runs_extract rfl rfl rfl) ?_; simp only [List.getElem_toArray, List.getElem_cons_succ, List.getElem_cons_zero])
  | ((with_reducible refine at_lit ?_); refine w_new Try.elI (i64s [(i : Int)]) rfl rfl rfl (i64s_cells _) rfl (by omega) ?_; intro v36 w5 hx o36; replace o36 : OwnI _ w5 v36 [(i : Int)] := o36; replace f3 := f3.ext hx; replace o9 := o9.ext hx; replace hws := hide_ (Nat.le_trans hws.out hx.size); replace hX := hX.trans hx; clear hx)
  | ((with_reducible refine at_bi ?_); refine appi _ _ rfl rfl rfl rfl o9 o36.ints (by have := hMl.out; simp; omega) hws.out ?_; intro v37 w6 o37 hb3 _ _; replace f3 := f3.below hb3 h3l.out; replace hws := hide_ (Nat.le_trans hws.out hb3.size); replace hX := hX.trans' (hb3.mono hw1.out); clear hb3 o9 o36)
  | fail) <;> (try simp only [Act.put, List.setIfInBounds_toArray, List.set_cons_zero, List.set_cons_succ]))
        go_roundw
        case rel => exact ⟨i + 1, by go_num, by have := hlt.out; omega, by rw [hb.out]; exact o37, f3, hws, hX⟩
        case measure => have := hlt.out; simp [intOf]; omega
    · have hil : i = t.length := by omega
      have tl : decide (i < t.length) = false := decide_eq_false hlt0
      subst hil
      rw [hR.out] at o9
      clear hlt0
      go_wp2
      go_ret
      exact Keep.intro ⟨_, rfl, own_mono o9 hw1.out, hX⟩
end Go.Proofs.Ytmhmkaginnddeaa
