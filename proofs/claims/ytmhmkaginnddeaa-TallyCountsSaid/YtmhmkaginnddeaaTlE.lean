/- The contracts of slices.Backward and of the views above another one, as functions that are ranged over. -/
import Derived.Test.YtmhmkaginnddeaaTlD2
import Derived.Test.YtmhmkaginnddeaaSeqN
import Derived.TacticsInMore
import Derived.LoopIn
import Derived.OwnWalkIn
namespace Go.Proofs.Ytmhmkaginnddeaa
set_option maxRecDepth 100000
open Go.RowKit

theorem listInTake {P : Program} {r : Option Nat} {n : Nat} {ops : Array Oper} {Q : Exit → Act → World → Prop} (k : Nat) : ∀ {l : List Oper} {a : Act} {w : World}, noDefers (l.take k) = true →
    wpList P ops (Exit.then (wpListIn (Fr r) n P ops Q (l.drop k)) (fun _ _ _ => False)) (l.take k) a w → wpListIn (Fr r) n P ops Q l a w := by
  induction k with
  | zero => intro l a w _ h; exact h
  | succ k ih =>
    intro l a w hd h
    cases l with
    | nil => exact h
    | cons o l =>
      simp only [List.take_succ_cons, List.drop_succ_cons] at hd h
      simp only [noDefers, List.all_cons, Bool.and_eq_true, Bool.not_eq_true'] at hd
      unfold wpList at h
      unfold wpListIn
      split
      · rename_i hw
        rw [if_pos hw] at h
        rcases h with h | ⟨_, _, _, h⟩
        · refine Oper.wpIn_mono (fun a w hr => ih (l := l) hd.2 hr) (opIn hd.1 ?_)
          exact Oper.wp_noQ (fun _ _ h => h) (by
            unfold Oper.wp at h ⊢
            generalize (execOp a.eval o).run P w = res at h
            cases res with
            | ok x w' =>
              cases x with
              | enter f args =>
                refine Calls.mono h fun e w'' he => ?_
                cases e with
                | returned v => exact he
                | panicked c => exact he.elim
                | outgrown => obtain ⟨_, _, hf⟩ := he; exact hf.elim
              | value v => exact h
              | skip => exact h
              | defer d => exact h
              | row row args => exact h
              | _ => exact h.elim
            | halt x w' =>
              cases x with
              | panic v => exact h.elim
              | _ => exact h.elim)
        · exact h.elim
      · rename_i hw
        rw [if_neg hw] at h
        exact ⟨fun _ _ => trivial, ih (l := l) hd.2 h⟩

/-- A list's places and numbers, from behind. -/
def backs (L : List Int) : List (Array Value) := (List.range L.length).map fun k => #[.int .i64 ((L.length - 1 - k : Nat) : Int), .int .i64 (L.getD (L.length - 1 - k) 0)]
theorem backs_len (L : List Int) : (backs L).length = L.length := by simp [backs]
theorem backs_at (L : List Int) {k : Nat} (hk : k < (backs L).length) : (backs L)[k] = #[.int .i64 ((L.length - 1 - k : Nat) : Int), .int .i64 (L.getD (L.length - 1 - k) 0)] := by simp [backs]

set_option maxRecDepth 100000 in
set_option maxHeartbeats 3200000 in
theorem back1_seq {w : World} {cb : Nat} {v : Value} {L : List Int} {G : Nat → Prop} (hf : Fs w cb [v]) (hi : Ints w v L) (hlen : L.length ≤ 100000) (hG1 : ¬ G cb) (hG2 : ∀ k, v.ownBlock = some k → ¬ G k ∧ k < w.heap.size) :
    Seq Try.prog 51 #[.pointer (some ⟨cb, 0, none⟩)] (backs L) G w := by
  intro l J Jx W hX hJ hJx hY h0
  refine calls_fr (r := none) (n := 0) ?_
  refine callsIn_of_wp Try.func51 rfl trivial ?_ rfl
  simp only [Try.ntmps51, List.size_toArray, List.length_cons, List.length_nil, Nat.reduceAdd, Nat.reduceSub, Array.replicate_succ, Array.replicate_zero, List.push_toArray, List.append_toArray, List.nil_append, List.cons_append]
  have f0 := hide_ (hf.ext hX)
  have i0 := hide_ (hi.ext hX)
  have hcb := hide_ hf.lt
  gi_wp2_with (refine listIn (by kernel_rfl) ?_; go_wp2_with ((first
    | ((with_reducible refine at_load ?_); refine w_fload _ rfl rfl rfl f0.out rfl (agg_of (by kernel_rfl)) ?_)
    | ((with_reducible refine at_bi ?_); refine i_len _ rfl rfl rfl i0.out ?_)
    | (refine noOut_n ?_)
    | fail) <;> (try simp only [Act.put, List.setIfInBounds_toArray, List.set_cons_zero, List.set_cons_succ])))
  gi_loopw [3] (fun u3 wr => ∃ k : Nat, u3 = .int .i64 ((L.length : Int) - 1 - k) ∧ k ≤ L.length ∧ J k wr ∧ Fs wr cb [v] ∧ Ints wr v L ∧ Hid (W.heap.size ≤ wr.heap.size)) (fun u3 _ => (intOf u3 + 1).toNat)
  case atStart => exact ⟨0, by simp, Nat.zero_le _, h0, f0.out, i0.out, Nat.le_refl _⟩
  case round =>
    obtain ⟨k, rfl, hk, hj, f1, i1, hsz⟩ := hrel
    by_cases hlt0 : k < L.length
    · obtain ⟨i, hi0⟩ : ∃ i : Nat, L.length = i + k + 1 := ⟨L.length - 1 - k, by omega⟩
      have hi1 : (L.length : Int) - 1 - k = (i : Int) := by omega
      rw [hi1]
      have hil0 : i < L.length := by omega
      have hil := hide_ hil0
      have hy := hide_ (hY k (by rw [backs_len]; exact hlt0) wr hsz.out hj)
      obtain ⟨x, hx0⟩ : ∃ x, L[i] = x := ⟨_, rfl⟩
      have hx := hide_ hx0
      have harg := hide_ (show (backs L)[k]'(by rw [backs_len]; exact hlt0) = #[.int .i64 (i : Int), .int .i64 x] from by
        rw [backs_at, show L.length - 1 - k = i from by omega, getD_at L hil0]
        exact congrArg (fun z => #[Value.int .i64 (i : Int), Value.int .i64 z]) hx0)
      have hy2 := hide_ (harg.out ▸ hy.out : YieldAt Fence.wide 0 Try.prog l #[.int .i64 (i : Int), .int .i64 x] wr _)
      have hi7 : i ≤ 100000 := by omega
      have hlast := hide_ (show k + 1 = L.length ∨ k + 1 < L.length from by omega)
      have hii := hide_ hi0
      clear hi1 hi0 hx0 hj
      have hcb1 := hide_ (show ¬ (G cb ∨ (w.heap.size ≤ cb ∧ cb < W.heap.size)) from fun h => h.elim hG1 fun h => by have := hcb.out; omega)
      have hvb := hide_ (show ∀ j, v.ownBlock = some j → ¬ (G j ∨ (w.heap.size ≤ j ∧ j < W.heap.size)) from fun j hj h => h.elim (hG2 j hj).1 fun h => by have := (hG2 j hj).2; omega)
      gi_wp2_with (first
        | (refine listInTake 4 (l := ⟨some 13, _, _, _, _, _⟩ :: _) (by kernel_rfl) ?_; simp only [List.take_succ_cons, List.take_zero, List.drop_succ_cons, List.drop_zero]; go_wp2_with ((first
            | ((with_reducible refine at_load ?_); refine w_fload _ rfl rfl rfl f1 rfl (agg_of (by kernel_rfl)) ?_)
            | ((with_reducible refine at_idx ?_); refine i_idx _ _ i rfl rfl rfl i1 rfl hil.out ?_; intro ad had; replace had := had.trans (congrArg (fun z => some (Value.int .i64 z)) hx.out))
            | fail) <;> (try simp only [Act.put, List.setIfInBounds_toArray, List.set_cons_zero, List.set_cons_succ])))
        | (refine w_yield0 (o := ⟨some 17, _, _, _, _, _⟩) _ rfl rfl rfl (by simp only [List.map_toArray, List.map_cons, List.map_nil, Act.eval]; rfl) hy2.out ?_; rintro e W3 ⟨hm, ⟨rfl, hj3⟩ | ⟨rfl, hj3⟩⟩ <;> refine ⟨_, rfl, ?_⟩ <;> simp only [Act.put, List.setIfInBounds_toArray, List.set_cons_zero, List.set_cons_succ])
        | (refine listIn (by kernel_rfl) ?_; go_wp2_with (refine noOut_n ?_))
        | fail)
      · have hs3 := hide_ (Nat.le_trans hsz.out hm.size)
        replace f1 := f1.mod hm hcb1.out
        replace i1 := Sl.mod i1 hm hvb.out
        have hii' := hii.out
        go_roundw
        case rel => exact ⟨k + 1, by go_num, by omega, hj3, f1, i1, hs3⟩
        case measure => simp [intOf]
      · refine bodyPost_ret (results_none rfl _ _ _) rfl ?_
        exact ⟨⟨_, rfl⟩, .inr ⟨k + 1, by rw [backs_len]; omega, hj3⟩⟩
    · obtain rfl : k = L.length := by omega
      have e0 : (L.length : Int) - 1 - L.length = -1 := by omega
      rw [e0]
      gi_wp2_with (first
        | (refine listIn (by kernel_rfl) ?_; go_wp2_with (refine noOut_n ?_))
        | fail)
      go_end0
      exact ⟨⟨_, rfl⟩, .inl (by rw [backs_len]; exact hj)⟩
end Go.Proofs.Ytmhmkaginnddeaa
