/- The contract of journal.first. -/
import Derived.Test.YtfhecifgpjbeiaaJrn2
namespace Go.Proofs.Ytfhecifgpjbeiaa
open Go.RowKit

theorem zero5_nob : ∀ u ∈ [Value.int .i64 0, .int .i64 0, .int .i64 0, .int .i64 0, .slice none 0 0], ∀ z, u ≠ .int .u8 z := rec5_nob (fun z e => by cases e)
theorem fromBody_yes {w : World} {v : Value} {b : List Nat} {r : RecD} (hi : inner b = some r) (hb : ∀ x ∈ b, x < 256) (hlen : b.length ≤ 140737488355328) (hv : Byt w v b) :
    Calls Try.prog 42 #[v] w fun e w' => ∃ u, e = .returned (.tuple #[.agg #[.int .i64 r.k, .int .i64 r.i, .int .i64 r.v, .int .i64 r.x, u], .bool true]) ∧ Nb w.heap.size w' u r.t ∧ r.Raw ∧ Ext w w' := by
  refine (fromBody_any hb hlen hv).mono ?_
  rintro e w' ⟨row, rfl, h1, h2⟩
  rw [hi] at h2 ⊢
  obtain ⟨⟨u, h3, h4⟩, h5⟩ := h2
  exact ⟨u, by rw [h3]; rfl, h4, h5, h1⟩
theorem fromBody_no {w : World} {v : Value} {b : List Nat} (hi : inner b = none) (hb : ∀ x ∈ b, x < 256) (hlen : b.length ≤ 140737488355328) (hv : Byt w v b) :
    Calls Try.prog 42 #[v] w fun e w' => ∃ u, e = .returned (.tuple #[.agg #[.int .i64 0, .int .i64 0, .int .i64 0, .int .i64 0, u], .bool false]) ∧ u.oneCell' = true ∧ Ext w w' := by
  refine (fromBody_any hb hlen hv).mono ?_
  rintro e w' ⟨row, rfl, h1, h2⟩
  rw [hi] at h2 ⊢
  obtain ⟨⟨u, h3, h4⟩, h5⟩ := h2
  exact ⟨u, by rw [h3]; rfl, h4.1.one', h1⟩
/-- How many bytes a record is. -/
def fsz (o : Option RecD) : Nat := match o with | some r => r.bs.length | none => 0

set_option maxRecDepth 100000 in
set_option maxHeartbeats 1600000 in
theorem first_any {w : World} {v : Value} {l : List Nat} (hl : ∀ x ∈ l, x < 256) (hlen : l.length ≤ 140737488355328) (hv : Byt w v l) :
    Calls Try.prog 28 #[v] w fun e w' => ∃ row, e = .returned (.tuple #[.agg row.toArray, .int .i64 (fsz (fst l) : Nat)]) ∧ Ext w w' ∧ RecN w.heap.size w' row (orZ (fst l)) := by
  refine calls_keep ?_
  have No : fst l = none → Hid (∀ e w', e = .returned (.tuple #[.agg zero5.toArray, .int .i64 0]) → Ext w w' → Keep (fun e w' => ∃ row, e = .returned (.tuple #[.agg row.toArray, .int .i64 (fsz (fst l) : Nat)]) ∧ Ext w w' ∧ RecN w.heap.size w' row (orZ (fst l))) e w') := fun h => hide_ (fun e w' he hx => Keep.intro ⟨zero5, by rw [he, h]; rfl, hx, by rw [h]; exact RecN.zero _ w'⟩)
  have hP := fstP_eq hl
  obtain ⟨m, hm0⟩ : ∃ m, m = min l.length 1048 := ⟨_, rfl⟩
  have hm := hide_ (show ((m : Nat) : Int) = min (l.length : Int) 1048 from by omega)
  have hml := hide_ (show m ≤ l.length from by omega)
  have hT : l.take 1048 = l.take m := by
    by_cases h : l.length ≤ 1048
    · rw [List.take_of_length_le h, List.take_of_length_le (by omega)]
    · rw [show m = 1048 from by omega]
  unfold fstP at hP
  rw [hT] at hP
  obtain ⟨L, hLd⟩ : ∃ L, l.take m = L := ⟨_, rfl⟩
  rw [hLd] at hP
  have hL : ∀ x ∈ L, x < 256 := fun x hx => hl x (List.mem_of_mem_take (by rw [hLd]; exact hx))
  have hLm : L.length = m := by rw [← hLd]; simp; omega
  have hLlen := hide_ (show L.length ≤ 140737488355328 from by omega)
  have hBlen := hide_ (show (rtL L).length ≤ 140737488355328 from by have := rtL_len L; have := hLlen.out; omega)
  replace hLd := hide_ hLd
  clear hlen hm0 hT hLm
  by_cases ht : RtOk L
  · rw [if_pos ht] at hP
    cases hin : inner (rtL L) with
    | some r =>
      have hf : fst l = some r := by
        rw [hin] at hP
        cases hq : fst l with
        | none => rw [hq] at hP; cases hP
        | some r' => rw [hq] at hP; simp at hP; rw [hP.1]
      have hn := hide_ (show ((r.bs.length : Nat) : Int) = (L.length : Int) - ((rtRest L).length : Int) from by
        rw [hin, hf] at hP
        simp only [Option.map_some, Option.some.injEq, Prod.mk.injEq, true_and] at hP
        have := rtRest_len L
        omega)
      have hn2 := hide_ (show -9223372036854775808 ≤ (L.length : Int) - ((rtRest L).length : Int) ∧ (L.length : Int) - ((rtRest L).length : Int) ≤ 9223372036854775807 from by have := hLlen.out; have := rtRest_len L; omega)
      replace hf := hide_ hf
      replace hin := hide_ hin
      replace ht := hide_ ht
      clear hP No
      go_enter Try.func28, Try.ntmps28
      go_wp2_with ((first
        | (refine w_alloc (o := ⟨some 2, _, _, _, _, _⟩) Try.stRec rfl rfl ?_; intro g2 w1 hg2 hX f2)
        | (refine b_len (o := ⟨some 11, _, _, _, _, _⟩) _ rfl rfl (v := v) rfl (hv.ext hX) ?_)
        | (refine w_min _ _ (m : Nat) hm.out rfl rfl rfl rfl ?_)
        | (refine b_to _ _ m rfl rfl (v := v) rfl (hv.ext hX) rfl hml.out ?_; intro v0 b0; rw [hLd.out] at b0)
        | (go_at_call 41; refine (RText_yes ht.out hL hLlen.out b0).mono ?_; rintro e w3 ⟨v3, v4, rfl, n3, b4, hx3⟩; have b3 := n3.1; replace b0 := b0.ext hx3; replace f2 := f2.ext hx3; replace hX := hX.trans hx3; clear hx3 n3)
        | (go_at_call 42; refine (fromBody_yes hin.out (rtL_lt hL) hBlen.out b3).mono ?_; rintro e w4 ⟨u, rfl, nu, hraw, hx4⟩; have c1 := nu.1.one'; replace nu := nu.mono hX.size; replace hraw := hide_ hraw; replace b0 := b0.ext hx4; replace b4 := b4.ext hx4; replace f2 := f2.ext hx4; replace hX := hX.trans hx4; clear hx4)
        | (refine w_alloc (o := ⟨some 7, _, _, _, _, _⟩) Try.stRec rfl rfl ?_; intro g7 w5 hg7 hx5 f7; have hg7' := Nat.le_trans hX.size hg7; have n27 : g2 ≠ g7 := (by have := f2.lt; omega); replace nu := nu.ext hx5; replace b0 := b0.ext hx5; replace b4 := b4.ext hx5; replace f2 := f2.ext hx5; replace hX := hX.trans hx5; clear hx5 hg7)
        | (refine w_astore (o := ⟨none, .store _ (.tmp 7) _, _, _, _, _⟩) Try.stRec (us := [.int .i64 r.k, .int .i64 r.i, .int .i64 r.v, .int .i64 r.x, u]) _ _ rfl rfl rfl rfl rfl f7 rfl rfl (rec5_one c1) ?_; intro w6 hm6 f7'; replace nu := nu.modF f7 zero5_nob hm6; replace b0 := b0.modF f7 zero5_nob hm6; replace b4 := b4.modF f7 zero5_nob hm6; replace f2 := f2.mod hm6 n27; replace hX := hm6.after hX (fun i e => e ▸ hg7'); replace f7 := f7'; clear f7' hm6)
        | (refine w_aload Try.stRec _ rfl rfl rfl f7 rfl ?_)
        | (refine b_len (o := ⟨some 33, _, _, _, _, _⟩) _ rfl rfl (v := v0) rfl b0 ?_)
        | (refine b_len (o := ⟨some 35, _, _, _, _, _⟩) _ rfl rfl (v := v4) rfl b4 ?_)
        | (refine wpList_runs rfl (runs_sub _ _ (r.bs.length : Nat) hn.out hn2.out rfl rfl rfl) ?_)
        | (refine w_astore Try.stRec (us := [.int .i64 r.k, .int .i64 r.i, .int .i64 r.v, .int .i64 r.x, u]) _ _ rfl rfl rfl rfl rfl f2 rfl rfl (rec5_one c1) ?_; intro w8 hm8 f8; have hX8 := hm8.after hX (fun i e => e ▸ hg2); replace nu := nu.modF f2 zero5_nob hm8)
        | fail) <;> (try simp only [Act.put, List.setIfInBounds_toArray, List.set_cons_zero, List.set_cons_succ]))
      exact bodyPost_ret (ret_two Try.stRec rfl rfl rfl f8 rfl) rfl (Keep.intro ⟨_, by rw [hf.out]; rfl, hX8, by rw [hf.out]; exact ⟨⟨_, rfl, nu⟩, hraw.out⟩⟩)
    | none =>
      have hf : fst l = none := by
        rw [hin] at hP
        cases hq : fst l with
        | none => rfl
        | some r' => rw [hq] at hP; cases hP
      replace No := No hf
      replace hin := hide_ hin
      replace ht := hide_ ht
      clear hP hf
      go_enter Try.func28, Try.ntmps28
      go_wp2_with ((first
        | (refine w_alloc (o := ⟨some 2, _, _, _, _, _⟩) Try.stRec rfl rfl ?_; intro g2 w1 hg2 hX f2)
        | (refine b_len (o := ⟨some 11, _, _, _, _, _⟩) _ rfl rfl (v := v) rfl (hv.ext hX) ?_)
        | (refine w_min _ _ (m : Nat) hm.out rfl rfl rfl rfl ?_)
        | (refine b_to _ _ m rfl rfl (v := v) rfl (hv.ext hX) rfl hml.out ?_; intro v0 b0; rw [hLd.out] at b0)
        | (go_at_call 41; refine (RText_yes ht.out hL hLlen.out b0).mono ?_; rintro e w3 ⟨v3, v4, rfl, n3, b4, hx3⟩; have b3 := n3.1; replace b0 := b0.ext hx3; replace f2 := f2.ext hx3; replace hX := hX.trans hx3; clear hx3 n3)
        | (go_at_call 42; refine (fromBody_no hin.out (rtL_lt hL) hBlen.out b3).mono ?_; rintro e w4 ⟨u, rfl, c1, hx4⟩; replace f2 := f2.ext hx4; replace hX := hX.trans hx4; clear hx4)
        | (refine w_alloc (o := ⟨some 7, _, _, _, _, _⟩) Try.stRec rfl rfl ?_; intro g7 w5 hg7 hx5 f7; have hg7' := Nat.le_trans hX.size hg7; have n27 : g2 ≠ g7 := (by have := f2.lt; omega); replace f2 := f2.ext hx5; replace hX := hX.trans hx5; clear hx5 hg7)
        | (refine w_astore (o := ⟨none, .store _ (.tmp 7) _, _, _, _, _⟩) Try.stRec (us := [.int .i64 0, .int .i64 0, .int .i64 0, .int .i64 0, u]) _ _ rfl rfl rfl rfl rfl f7 rfl rfl (rec5_one c1) ?_; intro w6 hm6 f7'; replace f2 := f2.mod hm6 n27; replace hX := hm6.after hX (fun i e => e ▸ hg7'); replace f7 := f7'; clear f7' hm6)
        | (refine w_sbuild Try.stRec zero5 rfl rfl rfl (by intro p hp; simp at hp) ?_)
        | (refine w_astore Try.stRec (us := zero5) _ _ rfl rfl rfl rfl rfl f2 rfl rfl zero5_one ?_; intro w8 hm8 f8; have hX8 := hm8.after hX (fun i e => e ▸ hg2))
        | fail) <;> (try simp only [Act.put, List.setIfInBounds_toArray, List.set_cons_zero, List.set_cons_succ]))
      exact bodyPost_ret (ret_two Try.stRec rfl rfl rfl f8 rfl) rfl (No.out _ w8 rfl hX8)
  · rw [if_neg ht] at hP
    have hf : fst l = none := by
      cases hq : fst l with
      | none => rfl
      | some r' => rw [hq] at hP; cases hP
    replace No := No hf
    replace ht := hide_ ht
    clear hP hf
    go_enter Try.func28, Try.ntmps28
    go_wp2_with ((first
      | (refine w_alloc (o := ⟨some 2, _, _, _, _, _⟩) Try.stRec rfl rfl ?_; intro g2 w1 hg2 hX f2)
      | (refine b_len (o := ⟨some 11, _, _, _, _, _⟩) _ rfl rfl (v := v) rfl (hv.ext hX) ?_)
      | (refine w_min _ _ (m : Nat) hm.out rfl rfl rfl rfl ?_)
      | (refine b_to _ _ m rfl rfl (v := v) rfl (hv.ext hX) rfl hml.out ?_; intro v0 b0; rw [hLd.out] at b0)
      | (go_at_call 41; refine (RText_no ht.out hL hLlen.out b0).mono ?_; rintro e w3 ⟨v3, v4, rfl, hx3⟩; replace f2 := f2.ext hx3; replace hX := hX.trans hx3; clear hx3)
      | (refine w_sbuild Try.stRec zero5 rfl rfl rfl (by intro p hp; simp at hp) ?_)
      | (refine w_astore Try.stRec (us := zero5) _ _ rfl rfl rfl rfl rfl f2 rfl rfl zero5_one ?_; intro w8 hm8 f8; have hX8 := hm8.after hX (fun i e => e ▸ hg2))
      | fail) <;> (try simp only [Act.put, List.setIfInBounds_toArray, List.set_cons_zero, List.set_cons_succ]))
    exact bodyPost_ret (ret_two Try.stRec rfl rfl rfl f8 rfl) rfl (No.out _ w8 rfl hX8)
end Go.Proofs.Ytfhecifgpjbeiaa
