/- The contracts of neaptideref01.Text and ReadText. -/
import Derived.Test.YtfhecifgpjbeiaaRef
import Derived.Test.YtfhecifgpjbeiaaCutk
import Derived.Test.YtfhecifgpjbeiaaRegP
namespace Go.Proofs.Ytfhecifgpjbeiaa
open Go.RowKit

set_option maxRecDepth 100000 in
set_option maxHeartbeats 400000 in
theorem refText_any (v : Value) (l : List Nat) (w : World) (h : Byt w v l) :
    Calls Try.prog 35 #[v] w fun e w' => ∃ v', e = .returned (.tuple #[v', .int .i64 (txErr l)]) ∧ OwnB w.heap.size w' v' (txL l) ∧ Ext w w' := by
  refine calls_keep ?_
  by_cases hb : 4096 < l.length
  · have Hb := hide_ hb
    go_enter Try.func35, Try.ntmps35
    go_wp2_with (first
      | (refine b_len (.tmp 4) rfl rfl (v := v) rfl h ?_))
    go_ret2
    exact Keep.intro ⟨_, by rw [txErr, if_pos Hb.out]; rfl, by rw [txL, if_pos Hb.out]; exact OwnB.nil _ _, Ext.refl _⟩
  · have Hb := hide_ hb
    have hn10 := numL_len10 (W64_of (n := l.length) (by omega))
    go_enter Try.func35, Try.ntmps35
    go_wp2_with (first
      | (refine b_len (.tmp 4) rfl rfl (v := v) rfl h ?_)
      | (refine b_len (.tmp 7) rfl rfl (v := v) rfl h ?_)
      | (go_at_call 45; refine (refNum_any l.length w (W64_of (by omega))).mono ?_; rintro e w1 ⟨v1, rfl, ho1, hx1⟩)
      | (at_builtin; refine appb (.tmp 10) (.tmp 11) rfl rfl (v := v1) (sv := v) rfl rfl ho1 (h.ext hx1) (by omega) hx1.size ?_; intro v2 w2 ho2 hb2 hg2))
    go_ret2
    exact Keep.intro ⟨_, by rw [txErr, if_neg Hb.out]; rfl, by rw [txL, if_neg Hb.out]; exact ho2, (show Below _ _ _ from hx1).trans hb2⟩

theorem rt_alt {l : List Nat} (h : RtOk l) : rtL l = (rdRest l).take (rd l).1 ∧ rtRest l = (rdRest l).drop (rd l).1 := by
  have h' := h
  obtain ⟨h0, h1, h2⟩ := h
  rw [rtL, rtRest, if_pos h', if_pos h', rdRest, if_neg h0]
  refine ⟨?_, ?_⟩
  · rw [List.drop_take, show (rd l).2 + (rd l).1 - (rd l).2 = (rd l).1 from by omega]
  · rw [List.drop_drop]

set_option maxRecDepth 100000 in
set_option maxHeartbeats 800000 in
theorem refReadText_new (v : Value) (l : List Nat) (w : World) (hl : ∀ x ∈ l, x < 256) (h : Byt w v l) (hlen : l.length ≤ 140737488355328) :
    Calls Try.prog 46 #[v] w fun e w' => ∃ v1 v2, e = .returned (.tuple #[v1, v2, .int .i64 (rtErr l)]) ∧ Nb w.heap.size w' v1 (rtL l) ∧ Nb w.heap.size w' v2 (rtRest l) ∧ Ext w w' := by
  refine calls_keep ?_
  have hle := rd_le l hl
  have no : ¬ RtOk l → ∀ e w', e = .returned (.tuple #[.slice none 0 0, .slice none 0 0, .int .i64 11]) → Ext w w' → Keep (fun e w' => ∃ v1 v2, e = .returned (.tuple #[v1, v2, .int .i64 (rtErr l)]) ∧ Nb w.heap.size w' v1 (rtL l) ∧ Nb w.heap.size w' v2 (rtRest l) ∧ Ext w w') e w' := by
    intro h0 e w' he hx
    exact Keep.intro ⟨.slice none 0 0, .slice none 0 0, by rw [he, rtErr, if_neg h0]; rfl, by rw [rtL, if_neg h0]; exact Nb.nil _ _, by rw [rtRest, if_neg h0]; exact Nb.nil _ _, hx⟩
  have No := hide_ no
  clear no
  by_cases h0 : (rd l).2 = 0
  · have hno := hide_ (show ¬ RtOk l from fun e => e.1 h0)
    have He := hide_ (show rdErr l = 11 from by rw [rdErr, if_pos h0])
    clear h0
    go_enter Try.func46, Try.ntmps46
    go_wp2_with (first
      | (go_at_call 51; refine (refReadNum_own v l _ hl h hlen).mono ?_; rintro e w1 ⟨v1, rfl, H1, hx1⟩; rw [He.out]))
    go_ret3
    exact No.out hno.out _ _ rfl hx1
  · have He := hide_ (show rdErr l = 0 from by rw [rdErr, if_neg h0])
    have hr : (rdRest l).length = l.length - (rd l).2 := by rw [rdRest, if_neg h0]; simp
    by_cases h1 : 4096 < (rd l).1
    · have hd1 : (decide ((4096 : Int) < ((rd l).1 : Int))) = true := by simp; omega
      have hno := hide_ (show ¬ RtOk l from fun e => by have := e.2.1; omega)
      clear h0 h1
      go_enter Try.func46, Try.ntmps46
      go_wp2_with (first
        | (go_at_call 51; refine (refReadNum_own v l _ hl h hlen).mono ?_; rintro e w1 ⟨v1, rfl, H1, hx1⟩; rw [He.out]))
      go_ret3
      exact No.out hno.out _ _ rfl hx1
    · have hd1 : (decide ((4096 : Int) < ((rd l).1 : Int))) = false := by simp; omega
      have hc2 : IntKind.i64.wrap ((rd l).1 : Int) = ((rd l).1 : Int) := IntWalk.i64_in _ (by omega)
      by_cases h2 : (rdRest l).length < (rd l).1
      · have hd2 : (decide ((rdRest l).length < (rd l).1)) = true := by simpa using h2
        have hno := hide_ (show ¬ RtOk l from fun e => by have := e.2.2; omega)
        clear h0 h1 h2 hr
        go_enter Try.func46, Try.ntmps46
        go_wp2_with (first
          | (go_at_call 51; refine (refReadNum_own v l _ hl h hlen).mono ?_; rintro e w1 ⟨v1, rfl, H1, hx1⟩; rw [He.out])
          | (refine w_yes _ _ _ rfl rfl rfl ?_; refine b_len _ rfl rfl rfl H1.byt ?_))
        go_ret3
        exact No.out hno.out _ _ rfl hx1
      · have hd2 : (decide ((rdRest l).length < (rd l).1)) = false := by simpa using h2
        have hok : RtOk l := ⟨h0, by omega, by omega⟩
        obtain ⟨ha, hb⟩ := rt_alt hok
        have Ha := hide_ ha
        have Hb := hide_ hb
        have Hok := hide_ hok
        clear ha hb hok h0 h1
        go_enter Try.func46, Try.ntmps46
        go_wp2_with (first
          | (go_at_call 51; refine (refReadNum_own v l _ hl h hlen).mono ?_; rintro e w1 ⟨v1, rfl, H1, hx1⟩; rw [He.out])
          | (refine w_yes _ _ _ rfl rfl rfl ?_; refine b_len _ rfl rfl rfl H1.byt ?_))
        refine wp_region_phx (by kernel_rfl) ?_; intro wd hxd; have hW := H1.nb.ext hxd
        refine Ph.rest 0 9 (by kernel_rfl) ?_
        refine LinL.step (s := (.val (v1))) [(6, none)] rfl (by kernel_rfl) (op_out 6 (v1) rfl (.inl rfl) rfl) ?_
        refine LinL.step (s := (.val (.int .u64 ((rd l).1 : Nat)))) [(5, none)] rfl (by kernel_rfl) (op_out 5 (.int .u64 ((rd l).1 : Nat)) rfl (.inl rfl) rfl) ?_
        refine LinL.step (s := (Sp.nb w.heap.size ((rdRest l).take (rd l).1))) [(27, some 1), (28, some 0)] rfl (by kernel_rfl) (op_runs rfl fun σ w' hx hg => rcutkN .u64 .u64 (ρ := σ.eval) (w := w') (.tmp 27) rfl hg.1 (hW.ext hx) (0) ((rd l).1) (.inr ⟨rfl, rfl⟩) (.inl ⟨.tmp 28, rfl, hg.2.1⟩) (by omega) (by omega) (by simp)) ?_
        refine LinL.step (s := (.val (v1))) [(6, none)] rfl (by kernel_rfl) (op_out 6 (v1) rfl (.inl rfl) rfl) ?_
        refine LinL.step (s := (.val (.int .u64 ((rd l).1 : Nat)))) [(5, none)] rfl (by kernel_rfl) (op_out 5 (.int .u64 ((rd l).1 : Nat)) rfl (.inl rfl) rfl) ?_
        refine LinL.step (s := (Sp.nb w.heap.size ((rdRest l).drop (rd l).1))) [(30, some 1), (31, some 0)] rfl (by kernel_rfl) (op_runs rfl fun σ w' hx hg => rcutkN .u64 .u64 (ρ := σ.eval) (w := w') (.tmp 30) rfl hg.1 (hW.ext hx) ((rd l).1) ((rdRest l).length) (.inl ⟨.tmp 31, rfl, hg.2.1⟩) (.inr ⟨rfl, rfl⟩) (by omega) (by omega) (by simp)) ?_
        refine LinL.step (s := (Sp.nb w.heap.size ((rdRest l).take (rd l).1))) [(29, some 3)] rfl (by kernel_rfl) (op_copy 29 3 (Sp.nb w.heap.size ((rdRest l).take (rd l).1)) rfl (.inr rfl) rfl) ?_
        refine LinL.step (s := (Sp.nb w.heap.size ((rdRest l).drop (rd l).1))) [(32, some 1)] rfl (by kernel_rfl) (op_copy 32 1 (Sp.nb w.heap.size ((rdRest l).drop (rd l).1)) rfl (.inr rfl) rfl) ?_
        refine LinL.step (s := (.val (.int .i64 0))) [] rfl (by kernel_rfl) (op_const (.int .i64 0) rfl (.inr rfl)) ?_
        intro wN hxN
        simp only [Fin', Sp.nb, List.reverse_cons, List.reverse_nil, List.nil_append, List.cons_append, List.drop_zero, List.drop_succ_cons, List.take_succ_cons, List.take_zero]
        intro q29 hq29 q32 hq32 q2 hq2 q3 hq3
        simp only [Act.put, List.setIfInBounds_toArray, List.set_cons_zero, List.set_cons_succ]
        go_wp2
        go_ret3
        exact Keep.intro ⟨q2, q3, by rw [rtErr, if_pos Hok.out]; rfl, by rw [Ha.out]; exact hq2, by rw [Hb.out]; exact hq3, (hx1.trans hxd).trans hxN⟩
theorem refReadText_any (v : Value) (l : List Nat) (w : World) (hl : ∀ x ∈ l, x < 256) (h : Byt w v l) (hlen : l.length ≤ 140737488355328) :
    Calls Try.prog 46 #[v] w fun e w' => ∃ v1 v2, e = .returned (.tuple #[v1, v2, .int .i64 (rtErr l)]) ∧ Byt w' v1 (rtL l) ∧ Byt w' v2 (rtRest l) ∧ Ext w w' :=
  (refReadText_new v l w hl h hlen).mono fun _ _ ⟨v1, v2, he, h1, h2, h3⟩ => ⟨v1, v2, he, h1.1, h2.1, h3⟩
end Go.Proofs.Ytfhecifgpjbeiaa
