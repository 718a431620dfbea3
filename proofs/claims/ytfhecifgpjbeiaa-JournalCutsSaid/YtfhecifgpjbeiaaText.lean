/- The contracts of wire.Text and wire.ReadText. -/
import Derived.Test.YtfhecifgpjbeiaaRegStep
import Derived.Test.YtfhecifgpjbeiaaRegP
import Derived.Test.YtfhecifgpjbeiaaClone
namespace Go.Proofs.Ytfhecifgpjbeiaa
open Go.RowKit

theorem cloneR {v : Value} {l : List Nat} {w : World} (h : Byt w v l) (hl : l.length ≤ 140737488355328) :
    Calls Try.prog 49 #[v] w fun e w' => ∃ v', e = .returned v' ∧ Ext w w' ∧ Sp.p (.sl (u8s l)) v' w' :=
  (Clone_any v l w h hl).mono fun _ _ ⟨v', he, ho, hx⟩ => ⟨v', he, hx, ho.byt⟩

theorem cloneO {v : Value} {l : List Nat} {w : World} {lo : Nat} (hlo : lo ≤ w.heap.size) (h : Byt w v l) (hl : l.length ≤ 140737488355328) :
    Calls Try.prog 49 #[v] w fun e w' => ∃ v', e = .returned v' ∧ Ext w w' ∧ Sp.p (.nb lo l) v' w' :=
  (Clone_any v l w h hl).mono fun _ _ ⟨v', he, ho, hx⟩ => ⟨v', he, hx, (ho.nb).mono hlo⟩

/-- A text as bytes, and the error. -/
def txL (l : List Nat) : List Nat := if 4096 < l.length then [] else numL l.length ++ l
def txErr (l : List Nat) : Nat := if 4096 < l.length then 11 else 0

theorem W64_of {n : Nat} (h : n ≤ 9223372036854775807) : W64 n := by unfold W64; omega

set_option maxRecDepth 100000 in
set_option maxHeartbeats 400000 in
theorem Text_any (v : Value) (l : List Nat) (w : World) (h : Byt w v l) :
    Calls Try.prog 32 #[v] w fun e w' => ∃ v', e = .returned (.tuple #[v', .int .i64 (txErr l)]) ∧ OwnB w.heap.size w' v' (txL l) ∧ Ext w w' := by
  refine calls_keep ?_
  by_cases hb : 4096 < l.length
  · have Hb := hide_ hb
    go_enter Try.func32, Try.ntmps32
    go_wp2_with (first
      | (refine b_len (.tmp 4) rfl rfl (v := v) rfl h ?_))
    go_ret2
    exact Keep.intro ⟨_, by rw [txErr, if_pos Hb.out]; rfl, by rw [txL, if_pos Hb.out]; exact OwnB.nil _ _, Ext.refl _⟩
  · have Hb := hide_ hb
    have hn10 := numL_len10 (W64_of (n := l.length) (by omega))
    go_enter Try.func32, Try.ntmps32
    go_wp2_with (first
      | (refine b_len (.tmp 4) rfl rfl (v := v) rfl h ?_)
      | (refine b_len (.tmp 7) rfl rfl (v := v) rfl h ?_)
      | (go_at_call 44; refine (Num_any l.length w (W64_of (by omega))).mono ?_; rintro e w1 ⟨v1, rfl, ho1, hx1⟩)
      | (at_builtin; refine appb (.tmp 10) (.tmp 11) rfl rfl (v := v1) (sv := v) rfl rfl ho1 (h.ext hx1) (by omega) hx1.size ?_; intro v2 w2 ho2 hb2 hg2))
    go_ret2
    exact Keep.intro ⟨_, by rw [txErr, if_neg Hb.out]; rfl, by rw [txL, if_neg Hb.out]; exact ho2, (show Below _ _ _ from hx1).trans hb2⟩

def RtOk (l : List Nat) : Prop := (rd l).2 ≠ 0 ∧ (rd l).1 ≤ 4096 ∧ (rd l).2 + (rd l).1 ≤ l.length
instance (l : List Nat) : Decidable (RtOk l) := by unfold RtOk; exact inferInstance
/-- The text with which bytes begin, what is behind it, the error. -/
def rtL (l : List Nat) : List Nat := if RtOk l then (l.take ((rd l).2 + (rd l).1)).drop (rd l).2 else []
def rtRest (l : List Nat) : List Nat := if RtOk l then l.drop ((rd l).2 + (rd l).1) else []
def rtErr (l : List Nat) : Nat := if RtOk l then 0 else 11

set_option maxRecDepth 100000 in
set_option maxHeartbeats 400000 in
theorem ReadText_no (v : Value) (l : List Nat) (w : World) (hl : ∀ x ∈ l, x < 256) (h : Byt w v l) (hlen : l.length ≤ 140737488355328) (hn : ¬ RtOk l) :
    Calls Try.prog 41 #[v] w fun e w' => e = .returned (.tuple #[.slice none 0 0, .slice none 0 0, .int .i64 11]) ∧ w = w' := by
  have hle := rd_le l hl
  refine calls_keep ?_
  by_cases h0 : (rd l).2 = 0
  · have hb : (((rd l).2 : Int) == 0) = true := by simp [h0]
    clear hn h0
    go_enter Try.func41, Try.ntmps41
    go_wp2_with (first
      | (go_at_call 48; refine (findNum_any v l w hl h).mono ?_; rintro e w' ⟨rfl, rfl⟩))
    go_ret3
    exact Keep.intro ⟨rfl, rfl⟩
  · have hb : (((rd l).2 : Int) == 0) = false := by rw [beq_eq_false_iff_ne]; omega
    by_cases h1 : 4096 < (rd l).1
    · have hd1 : (decide ((4096 : Int) < ((rd l).1 : Int))) = true := by simp; omega
      clear hn h0 h1
      go_enter Try.func41, Try.ntmps41
      go_wp2_with (first
        | (go_at_call 48; refine (findNum_any v l w hl h).mono ?_; rintro e w' ⟨rfl, rfl⟩))
      go_ret3
      exact Keep.intro ⟨rfl, rfl⟩
    · have hd1 : (decide ((4096 : Int) < ((rd l).1 : Int))) = false := by simp; omega
      have hs : IntKind.i64.wrap ((l.length : Int) - ((rd l).2 : Int)) = ((l.length - (rd l).2 : Nat) : Int) := by
        rw [IntWalk.i64_in _ (by omega)]; omega
      have hc : IntKind.u64.wrap ((l.length - (rd l).2 : Nat) : Int) = ((l.length - (rd l).2 : Nat) : Int) := wrapU64 _ (by omega)
      have hd2 : (decide (l.length - (rd l).2 < (rd l).1)) = true := by
        have : ¬ (rd l).2 + (rd l).1 ≤ l.length := fun h2 => hn ⟨h0, by omega, h2⟩
        simp; omega
      clear hn h0 h1
      go_enter Try.func41, Try.ntmps41
      go_wp2_with (first
        | (refine w_yes 6 19 false rfl rfl rfl ?_; refine b_len (.tmp 21) rfl rfl (v := v) rfl h ?_)
        | (go_at_call 48; refine (findNum_any v l w hl h).mono ?_; rintro e w' ⟨rfl, rfl⟩))
      go_ret3
      exact Keep.intro ⟨rfl, rfl⟩

set_option maxRecDepth 100000 in
set_option maxHeartbeats 400000 in
theorem ReadText_yes (v : Value) (l : List Nat) (w : World) (hl : ∀ x ∈ l, x < 256) (h : Byt w v l) (hlen : l.length ≤ 140737488355328) (hn : RtOk l) :
    Calls Try.prog 41 #[v] w fun e w' => ∃ v1 v2, e = .returned (.tuple #[v1, v2, .int .i64 0]) ∧ Nb w.heap.size w' v1 ((l.take ((rd l).2 + (rd l).1)).drop (rd l).2) ∧ Nb w.heap.size w' v2 (l.drop ((rd l).2 + (rd l).1)) ∧ Ext w w' := by
  obtain ⟨h0, h1, h2⟩ := hn
  refine calls_keep ?_
  have hb : (((rd l).2 : Int) == 0) = false := by rw [beq_eq_false_iff_ne]; omega
  have hd1 : (decide ((4096 : Int) < ((rd l).1 : Int))) = false := by simp; omega
  have hs : IntKind.i64.wrap ((l.length : Int) - ((rd l).2 : Int)) = ((l.length - (rd l).2 : Nat) : Int) := by
    rw [IntWalk.i64_in _ (by omega)]; omega
  have hc : IntKind.u64.wrap ((l.length - (rd l).2 : Nat) : Int) = ((l.length - (rd l).2 : Nat) : Int) := wrapU64 _ (by omega)
  have hd2 : (decide (l.length - (rd l).2 < (rd l).1)) = false := by simp; omega
  have hc2 : IntKind.i64.wrap ((rd l).1 : Int) = ((rd l).1 : Int) := IntWalk.i64_in _ (by omega)
  have hc3 : IntKind.i64.wrap (((rd l).2 : Int) + ((rd l).1 : Int)) = (((rd l).2 : Int) + ((rd l).1 : Int)) := IntWalk.i64_in _ (by omega)
  go_enter Try.func41, Try.ntmps41
  go_wp2_with (first
    | (refine w_yes 6 19 false rfl rfl rfl ?_; refine b_len (.tmp 21) rfl rfl (v := v) rfl h ?_)
    | (go_at_call 48; refine (findNum_any v l w hl h).mono ?_; rintro e w' ⟨rfl, rfl⟩))
  refine wp_region_phx (by kernel_rfl) ?_; intro wd hxd; have hW := h.ext hxd; have hws := hxd.size
  refine Ph.rest 0 12 (by kernel_rfl) ?_
  refine LinL.step (s := (.val (v))) [(0, none)] rfl (by kernel_rfl) (op_out 0 (v) rfl (.inl rfl) rfl) ?_
  refine LinL.step (s := (.val (.int .i64 (rd l).2))) [(6, none)] rfl (by kernel_rfl) (op_out 6 (.int .i64 (rd l).2) rfl (.inl rfl) rfl) ?_
  refine LinL.step (s := (.val (.int .i64 ((rd l).2 + (rd l).1 : Nat)))) [(7, none)] rfl (by kernel_rfl) (op_out 7 (.int .i64 ((rd l).2 + (rd l).1 : Nat)) rfl (.inl rfl) rfl) ?_
  refine LinL.step (s := (.sl (u8s ((l.take (((rd l).2 + (rd l).1))).drop ((rd l).2))))) [(32, some 2), (33, some 1), (34, some 0)] rfl (by kernel_rfl) (op_runs rfl fun σ w' hx hg => rcut (ρ := σ.eval) (w := w') (.tmp 32) rfl hg.1 (hW.ext hx) ((rd l).2) (((rd l).2 + (rd l).1)) (.inl ⟨(.tmp 33), rfl, hg.2.1⟩) (.inl ⟨(.tmp 34), rfl, hg.2.2.1⟩) (by omega) (by omega) (by simp)) ?_
  refine LinL.step (s := (Sp.nb w.heap.size ((l.take ((rd l).2 + (rd l).1)).drop (rd l).2))) [(35, some 0)] rfl (by kernel_rfl) (op_calls 49 #[(.tmp 35)] #[26] (fun σ => #[σ.tmps.getD 35 undef]) rfl rfl (fun _ _ => rfl) fun σ w' hx hg => ⟨by skip; simp only [List.map_toArray, List.map_cons, List.map_nil, Act.eval], cloneO (by have := hx.size; omega) @hg.1 (by simp; omega)⟩) ?_
  refine LinL.step (s := (.val (v))) [(0, none)] rfl (by kernel_rfl) (op_out 0 (v) rfl (.inl rfl) rfl) ?_
  refine LinL.step (s := (.val (.int .i64 ((rd l).2 + (rd l).1 : Nat)))) [(7, none)] rfl (by kernel_rfl) (op_out 7 (.int .i64 ((rd l).2 + (rd l).1 : Nat)) rfl (.inl rfl) rfl) ?_
  refine LinL.step (s := (.sl (u8s (l.drop (((rd l).2 + (rd l).1)))))) [(37, some 1), (38, some 0)] rfl (by kernel_rfl) (op_runs rfl fun σ w' hx hg => rcut (ρ := σ.eval) (w := w') (.tmp 37) rfl hg.1 (hW.ext hx) (((rd l).2 + (rd l).1)) _ (.inl ⟨(.tmp 38), rfl, hg.2.1⟩) (.inr ⟨rfl, rfl⟩) (by omega) (by omega) (by simp)) ?_
  refine LinL.step (s := (Sp.nb w.heap.size (l.drop ((rd l).2 + (rd l).1)))) [(39, some 0)] rfl (by kernel_rfl) (op_calls 49 #[(.tmp 39)] #[26] (fun σ => #[σ.tmps.getD 39 undef]) rfl rfl (fun _ _ => rfl) fun σ w' hx hg => ⟨by skip; simp only [List.map_toArray, List.map_cons, List.map_nil, Act.eval], cloneO (by have := hx.size; omega) @hg.1 (by simp; omega)⟩) ?_
  refine LinL.step (s := (Sp.nb w.heap.size ((l.take ((rd l).2 + (rd l).1)).drop (rd l).2))) [(36, some 4)] rfl (by kernel_rfl) (op_copy 36 4 (Sp.nb w.heap.size ((l.take ((rd l).2 + (rd l).1)).drop (rd l).2)) rfl (.inr rfl) rfl) ?_
  refine LinL.step (s := (Sp.nb w.heap.size (l.drop ((rd l).2 + (rd l).1)))) [(40, some 1)] rfl (by kernel_rfl) (op_copy 40 1 (Sp.nb w.heap.size (l.drop ((rd l).2 + (rd l).1))) rfl (.inr rfl) rfl) ?_
  refine LinL.step (s := (.val (.int .i64 0))) [] rfl (by kernel_rfl) (op_const (.int .i64 0) rfl (.inr rfl)) ?_
  intro wN hxN
  simp only [Fin', Sp.nb, List.reverse_cons, List.reverse_nil, List.nil_append, List.cons_append, List.drop_zero, List.drop_succ_cons, List.take_succ_cons, List.take_zero]
  intro q35 hq35 q36 hq36 q39 hq39 q40 hq40 q2 hq2 q3 hq3
  simp only [Act.put, List.setIfInBounds_toArray, List.set_cons_zero, List.set_cons_succ]
  go_wp2
  go_ret3
  exact Keep.intro ⟨q2, q3, rfl, hq2, hq3, hxd.trans hxN⟩

theorem ReadText_new (v : Value) (l : List Nat) (w : World) (hl : ∀ x ∈ l, x < 256) (h : Byt w v l) (hlen : l.length ≤ 140737488355328) :
    Calls Try.prog 41 #[v] w fun e w' => ∃ v1 v2, e = .returned (.tuple #[v1, v2, .int .i64 (rtErr l)]) ∧ Nb w.heap.size w' v1 (rtL l) ∧ Nb w.heap.size w' v2 (rtRest l) ∧ Ext w w' := by
  by_cases hn : RtOk l
  · refine (ReadText_yes v l w hl h hlen hn).mono fun e w' => ?_
    rintro ⟨v1, v2, rfl, h1, h2, h3⟩
    exact ⟨v1, v2, by rw [rtErr, if_pos hn]; rfl, by rw [rtL, if_pos hn]; exact h1, by rw [rtRest, if_pos hn]; exact h2, h3⟩
  · refine (ReadText_no v l w hl h hlen hn).mono fun e w' => ?_
    rintro ⟨rfl, rfl⟩
    exact ⟨_, _, by rw [rtErr, if_neg hn]; rfl, by rw [rtL, if_neg hn]; exact Nb.nil _ _, by rw [rtRest, if_neg hn]; exact Nb.nil _ _, Ext.refl _⟩
theorem ReadText_any (v : Value) (l : List Nat) (w : World) (hl : ∀ x ∈ l, x < 256) (h : Byt w v l) (hlen : l.length ≤ 140737488355328) :
    Calls Try.prog 41 #[v] w fun e w' => ∃ v1 v2, e = .returned (.tuple #[v1, v2, .int .i64 (rtErr l)]) ∧ Byt w' v1 (rtL l) ∧ Byt w' v2 (rtRest l) ∧ Ext w w' := 
  (ReadText_new v l w hl h hlen).mono fun _ _ ⟨v1, v2, he, h1, h2, h3⟩ => ⟨v1, v2, he, h1.1, h2.1, h3⟩
end Go.Proofs.Ytfhecifgpjbeiaa
