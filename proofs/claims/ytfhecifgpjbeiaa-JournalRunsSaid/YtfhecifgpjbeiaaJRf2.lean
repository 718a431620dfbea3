/- The contract of the document's first. -/
import Derived.Test.YtfhecifgpjbeiaaJRf1
import Derived.Test.YtfhecifgpjbeiaaStr
namespace Go.Proofs.Ytfhecifgpjbeiaa
open Go.RowKit

section
variable {w : World} {v : Value} {b s : List Nat} {xs : List Int}
theorem refRNums4_yes (h : rns 4 b = some (xs, s)) (hb : ∀ x ∈ b, x < 256) (hl : b.length ≤ 140737488355328) (hv : Byt w v b) : Calls Try.prog 47 #[v, .int .i64 4] w fun e w' => ∃ v1 v2, e = .returned (.tuple #[v1, v2, .int .i64 0]) ∧ Ints w' v1 xs ∧ Byt w' v2 s ∧ Ext w w' := by
  refine (refReadNums_any v b 4 w hb hv hl).mono ?_
  rintro e w' ⟨v1, v2, rfl, h1, h2, h3⟩
  rw [rnO4, h] at h1 h2 ⊢
  exact ⟨v1, v2, rfl, h1, h2, h3⟩
theorem refRNums4_no (h : rns 4 b = none) (hb : ∀ x ∈ b, x < 256) (hl : b.length ≤ 140737488355328) (hv : Byt w v b) : Calls Try.prog 47 #[v, .int .i64 4] w fun e w' => ∃ v1 v2, e = .returned (.tuple #[v1, v2, .int .i64 11]) ∧ Ext w w' := by
  refine (refReadNums_any v b 4 w hb hv hl).mono ?_
  rintro e w' ⟨v1, v2, rfl, h1, h2, h3⟩
  rw [rnO4, h]
  exact ⟨v1, v2, rfl, h3⟩
theorem refRText_yes (h : RtOk b) (hb : ∀ x ∈ b, x < 256) (hl : b.length ≤ 140737488355328) (hv : Byt w v b) : Calls Try.prog 46 #[v] w fun e w' => ∃ v1 v2, e = .returned (.tuple #[v1, v2, .int .i64 0]) ∧ Nb w.heap.size w' v1 (rtL b) ∧ Byt w' v2 (rtRest b) ∧ Ext w w' := by
  refine (refReadText_new v b w hb hv hl).mono ?_
  rintro e w' ⟨v1, v2, rfl, h1, h2, h3⟩
  exact ⟨v1, v2, by rw [rtErr, if_pos h]; rfl, h1, h2.1, h3⟩
theorem refRText_no (h : ¬ RtOk b) (hb : ∀ x ∈ b, x < 256) (hl : b.length ≤ 140737488355328) (hv : Byt w v b) : Calls Try.prog 46 #[v] w fun e w' => ∃ v1 v2, e = .returned (.tuple #[v1, v2, .int .i64 11]) ∧ Ext w w' := by
  refine (refReadText_any v b w hb hv hl).mono ?_
  rintro e w' ⟨v1, v2, rfl, h1, h2, h3⟩
  exact ⟨v1, v2, by rw [rtErr, if_neg h]; rfl, h3⟩
end
theorem ret_three {P : Program} {t : TypeId} {n : Nat} {zs : List Value} {w : World} (E : St P t n zs) {fn : Func} {s s' s'' g : Nat} {cs : List Value} {tmps : Array Value} {v v' : Value} (hrs : fn.results = #[.cell s t, .tmp s', .tmp s'']) (hp : tmps.getD s undef = .pointer (some ⟨g, 0, none⟩)) (hv : tmps.getD s' undef = v) (hv' : tmps.getD s'' undef = v') (h : Fs w g cs) (hl : cs.length = n) :
    (results fn tmps).run P w = .ok (.tuple #[.agg cs.toArray, v, v']) w := by
  have hr := run_loadVar_agg E h hl
  rw [Array.getD_eq_getD_getElem?] at hp hv hv'
  simp only [results, hrs]
  simp [hp, hv, hv', asAddr, hr]
theorem fst_c1 {b : List Nat} (h : ¬ RtOk b) : fst b = none := by unfold fst; rw [if_neg h]
theorem fst_c2 {b : List Nat} (h : RtOk b) (h2 : rns 4 (rtL b) = none) : fst b = none := by unfold fst; rw [if_pos h, h2]
theorem fst_c3 {b s : List Nat} {k i x y : Int} (h : RtOk b) (h2 : rns 4 (rtL b) = some ([k, i, x, y], s)) (h3 : ¬ RtOk s) : fst b = none := by unfold fst; rw [if_pos h, h2]; exact if_neg h3
theorem fst_c4 {b s : List Nat} {k i x y : Int} (h : RtOk b) (h2 : rns 4 (rtL b) = some ([k, i, x, y], s)) (h3 : RtOk s) (h4 : ¬ ((⟨k, i, x, y, rtL s⟩ : RecD).Ok ∧ (⟨k, i, x, y, rtL s⟩ : RecD).bs.isPrefixOf b = true)) : fst b = none := by
  unfold fst; rw [if_pos h, h2]; simp only; rw [if_pos h3]; exact if_neg h4
theorem fst_c5 {b s : List Nat} {k i x y : Int} (h : RtOk b) (h2 : rns 4 (rtL b) = some ([k, i, x, y], s)) (h3 : RtOk s) (h4 : (⟨k, i, x, y, rtL s⟩ : RecD).Ok ∧ (⟨k, i, x, y, rtL s⟩ : RecD).bs.isPrefixOf b = true) : fst b = some ⟨k, i, x, y, rtL s⟩ := by
  unfold fst; rw [if_pos h, h2]; simp only; rw [if_pos h3]; exact if_pos h4
theorem RecD.bs_lt {r : RecD} (h : r.Ok) (ht : ∀ x ∈ r.t, x < 256) : ∀ x ∈ r.bs, x < 256 := by
  intro x hx
  have hl := r.pay_len h
  rw [r.bs_eq h] at hx
  rcases List.mem_append.1 hx with hx | hx
  · exact numL_lt256 _ x hx
  · rw [RecD.pay] at hx
    rcases List.mem_append.1 hx with hx | hx
    · exact nuL_lt _ x hx
    · rw [txL_small (by have := h.2.2.2.2; omega)] at hx
      rcases List.mem_append.1 hx with hx | hx
      · exact numL_lt256 _ x hx
      · exact ht x hx

set_option maxRecDepth 100000 in
set_option maxHeartbeats 3200000 in
theorem refFirst_any {w : World} {v : Value} {l : List Nat} (hl : ∀ x ∈ l, x < 256) (hlen : l.length ≤ 140737488355328) (hv : Byt w v l) :
    Calls Try.prog 36 #[v] w fun e w' => ∃ row, e = .returned (.tuple #[.agg row.toArray, .int .i64 (fsz (fst l) : Nat), .bool (fst l).isSome]) ∧ Ext w w' ∧ RecN w.heap.size w' row (orZ (fst l)) := by
  refine calls_keep ?_
  replace hlen := hide_ hlen
  have hBlen := hide_ (show (rtL l).length ≤ 140737488355328 from by have := rtL_len l; have := hlen.out; omega)
  have No : fst l = none → Hid (∀ e w', e = .returned (.tuple #[.agg zero5.toArray, .int .i64 0, .bool false]) → Ext w w' → Keep (fun e w' => ∃ row, e = .returned (.tuple #[.agg row.toArray, .int .i64 (fsz (fst l) : Nat), .bool (fst l).isSome]) ∧ Ext w w' ∧ RecN w.heap.size w' row (orZ (fst l))) e w') := fun h => hide_ (fun e w' he hx => Keep.intro ⟨zero5, by rw [he, h]; rfl, hx, by rw [h]; exact RecN.zero _ w'⟩)
  by_cases h1 : RtOk l
  rotate_left
  · replace No := No (fst_c1 h1)
    replace h1 := hide_ h1
    go_enter Try.func36, Try.ntmps36
    go_wp2_with ((first
      | (refine w_alloc Try.stRec rfl rfl ?_; intro g2 w1 hg2 hX f2)
      | (go_at_call 46; refine (refRText_no h1.out hl hlen.out (hv.ext hX)).mono ?_; rintro e w2 ⟨v1, v2, rfl, hx2⟩; replace f2 := f2.ext hx2; replace hX := hX.trans hx2; clear hx2)
      | (refine w_sbuild Try.stRec zero5 rfl rfl rfl (by intro p hp; simp at hp) ?_)
      | (refine w_astore Try.stRec (us := zero5) _ _ rfl rfl rfl rfl rfl f2 rfl rfl zero5_one ?_; intro w8 hm8 f8; have hX8 := hm8.after hX (fun i e => e ▸ hg2))
      | fail) <;> (try simp only [Act.put, List.setIfInBounds_toArray, List.set_cons_zero, List.set_cons_succ]))
    exact bodyPost_ret (ret_three Try.stRec rfl rfl rfl rfl f8 rfl) rfl (No.out _ w8 rfl hX8)
  cases h2 : rns 4 (rtL l) with
  | none =>
    replace No := No (fst_c2 h1 h2)
    replace h1 := hide_ h1
    replace h2 := hide_ h2
    go_enter Try.func36, Try.ntmps36
    go_wp2_with ((first
      | (refine w_alloc Try.stRec rfl rfl ?_; intro g2 w1 hg2 hX f2)
      | (go_at_call 47; refine (refRNums4_no h2.out (rtL_lt hl) hBlen.out b1).mono ?_; rintro e w3 ⟨v3, v4, rfl, hx3⟩; replace f2 := f2.ext hx3; replace hX := hX.trans hx3; clear hx3 b1)
      | (go_at_call 46; refine (refRText_yes h1.out hl hlen.out (hv.ext hX)).mono ?_; rintro e w2 ⟨v1, v2, rfl, n1, b2, hx2⟩; have b1 := n1.1; replace f2 := f2.ext hx2; replace hX := hX.trans hx2; clear hx2 n1 b2)
      | (refine w_sbuild Try.stRec zero5 rfl rfl rfl (by intro p hp; simp at hp) ?_)
      | (refine w_astore Try.stRec (us := zero5) _ _ rfl rfl rfl rfl rfl f2 rfl rfl zero5_one ?_; intro w8 hm8 f8; have hX8 := hm8.after hX (fun i e => e ▸ hg2))
      | fail) <;> (try simp only [Act.put, List.setIfInBounds_toArray, List.set_cons_zero, List.set_cons_succ]))
    exact bodyPost_ret (ret_three Try.stRec rfl rfl rfl rfl f8 rfl) rfl (No.out _ w8 rfl hX8)
  | some p =>
    obtain ⟨xs, s⟩ := p
    obtain ⟨hbs, hxl, hxi⟩ := rns_was 4 (rtL l) xs s (rtL_lt hl) h2
    obtain ⟨k, i, x, y, rfl⟩ : ∃ k i x y, xs = [k, i, x, y] := by
      match xs, hxl with
      | [k, i, x, y], _ => exact ⟨k, i, x, y, rfl⟩
    have hs := hide_ (show ∀ z ∈ s, z < 256 from fun z hz => rtL_lt hl z (by rw [hbs]; exact List.mem_append_right _ hz))
    have hslen := hide_ (show s.length ≤ 140737488355328 from by have := hBlen.out; rw [hbs] at this; simp at this; omega)
    have hraw : Hid ((⟨k, i, x, y, rtL s⟩ : RecD).Raw) := hide_ (by
      have h1 := hxi k (by simp); have h2 := hxi i (by simp); have h3 := hxi x (by simp); have h4 := hxi y (by simp)
      refine ⟨by simp only; omega, by simp only; omega, by simp only; omega, by simp only; omega, rtL_lt hs.out, ?_⟩
      unfold rtL; split
      · rename_i h; have := h.2.1; simp; omega
      · simp)
    clear hbs hxl hxi
    by_cases h3 : RtOk s
    rotate_left
    · replace No := No (fst_c3 h1 h2 h3)
      replace h1 := hide_ h1
      replace h2 := hide_ h2
      replace h3 := hide_ h3
      go_enter Try.func36, Try.ntmps36
      go_wp2_with ((first
        | (refine w_alloc Try.stRec rfl rfl ?_; intro g2 w1 hg2 hX f2)
        | (go_at_call 47; refine (refRNums4_no h2.out (rtL_lt hl) hBlen.out b1).mono ?_; rintro e w3 ⟨v3, v4, rfl, hx3⟩; replace f2 := f2.ext hx3; replace hX := hX.trans hx3; clear hx3 b1)
        | (go_at_call 47; refine (refRNums4_yes h2.out (rtL_lt hl) hBlen.out b1).mono ?_; rintro e w3 ⟨v3, v4, rfl, i3, b4, hx3⟩; replace f2 := f2.ext hx3; replace hX := hX.trans hx3; clear hx3 b1)
        | (go_at_call 46; refine (refRText_no h3.out hs.out hslen.out b4).mono ?_; rintro e w4 ⟨v5, v6, rfl, hx4⟩; replace f2 := f2.ext hx4; replace hX := hX.trans hx4; clear hx4 b4)
        | (go_at_call 46; refine (refRText_yes h1.out hl hlen.out (hv.ext hX)).mono ?_; rintro e w2 ⟨v1, v2, rfl, n1, b2, hx2⟩; have b1 := n1.1; replace f2 := f2.ext hx2; replace hX := hX.trans hx2; clear hx2 n1 b2)
        | (refine w_sbuild Try.stRec zero5 rfl rfl rfl (by intro p hp; simp at hp) ?_)
        | (refine w_astore Try.stRec (us := zero5) _ _ rfl rfl rfl rfl rfl f2 rfl rfl zero5_one ?_; intro w8 hm8 f8; have hX8 := hm8.after hX (fun i e => e ▸ hg2))
        | fail) <;> (try simp only [Act.put, List.setIfInBounds_toArray, List.set_cons_zero, List.set_cons_succ]))
      exact bodyPost_ret (ret_three Try.stRec rfl rfl rfl rfl f8 rfl) rfl (No.out _ w8 rfl hX8)
    by_cases hok : (⟨k, i, x, y, rtL s⟩ : RecD).Ok
    rotate_left
    · replace No := No (fst_c4 h1 h2 h3 fun h => hok h.1)
      have E1 := hide_ (show jErr ⟨k, i, x, y, rtL s⟩ = 51 from if_neg hok)
      have E2 := hide_ (show jB ⟨k, i, x, y, rtL s⟩ = [] from if_neg hok)
      replace h1 := hide_ h1
      replace h2 := hide_ h2
      replace h3 := hide_ h3
      clear hok
      go_enter Try.func36, Try.ntmps36
      go_wp2_with ((first
        | (refine w_alloc Try.stRec rfl rfl ?_; intro g2 w1 hg2 hX f2)
        | (go_at_call 47; refine (refRNums4_yes h2.out (rtL_lt hl) hBlen.out b1).mono ?_; rintro e w3 ⟨v3, v4, rfl, i3, b4, hx3⟩; replace f2 := f2.ext hx3; replace hX := hX.trans hx3; clear hx3 b1)
        | (go_at_call 46; refine (refRText_yes h3.out hs.out hslen.out b4).mono ?_; rintro e w4 ⟨v5, v6, rfl, n5, b6, hx4⟩; replace n5 := n5.mono hX.size; have b5 := n5.1; replace i3 := i3.ext hx4; replace f2 := f2.ext hx4; replace hX := hX.trans hx4; clear hx4 b4 b6)
        | (go_at_call 46; refine (refRText_yes h1.out hl hlen.out (hv.ext hX)).mono ?_; rintro e w2 ⟨v1, v2, rfl, n1, b2, hx2⟩; have b1 := n1.1; replace f2 := f2.ext hx2; replace hX := hX.trans hx2; clear hx2 n1 b2)
        | fail) <;> (try simp only [Act.put, List.setIfInBounds_toArray, List.set_cons_zero, List.set_cons_succ]))
      refine wp_region_phx (by kernel_rfl) ?_; intro wd hxd; replace i3 := i3.ext hxd; replace b5 := b5.ext hxd; have hN5 := hxd; replace f2 := f2.ext hxd; replace hX := hX.trans hxd
      refine Ph.gate 0 15 (by kernel_rfl) ?_
      refine LinL.step (s := (.val (v3))) [(8, none)] rfl (by kernel_rfl) (op_out 8 (v3) rfl (.inl rfl) rfl) ?_
      refine LinL.step (s := (Sp.ptr (.int .i64 (k)))) [(44, some 0)] rfl (by kernel_rfl) (op_runs rfl fun σ w' hx hg => rptri (ρ := σ.eval) (w := w') (.tmp 44) (.const (.int .i64 0)) rfl hg.1 (i3.ext hx) 0 rfl (by simp) rfl) ?_
      refine LinL.step (s := (.val (.int .i64 (k : Int)))) [(45, some 0)] rfl (by kernel_rfl) (op_runs rfl fun σ w' hx hg => ⟨_, runs_load (ρ := σ.eval) (w := w') (.tmp 45) rfl Try.underlying3 rfl hg.1, rfl⟩) ?_
      refine LinL.step (s := (.val (v3))) [(8, none)] rfl (by kernel_rfl) (op_out 8 (v3) rfl (.inl rfl) rfl) ?_
      refine LinL.step (s := (Sp.ptr (.int .i64 (i)))) [(47, some 0)] rfl (by kernel_rfl) (op_runs rfl fun σ w' hx hg => rptri (ρ := σ.eval) (w := w') (.tmp 47) (.const (.int .i64 1)) rfl hg.1 (i3.ext hx) 1 rfl (by simp) rfl) ?_
      refine LinL.step (s := (.val (.int .i64 (i : Int)))) [(48, some 0)] rfl (by kernel_rfl) (op_runs rfl fun σ w' hx hg => ⟨_, runs_load (ρ := σ.eval) (w := w') (.tmp 48) rfl Try.underlying3 rfl hg.1, rfl⟩) ?_
      refine LinL.step (s := (.val (v3))) [(8, none)] rfl (by kernel_rfl) (op_out 8 (v3) rfl (.inl rfl) rfl) ?_
      refine LinL.step (s := (Sp.ptr (.int .i64 (x)))) [(50, some 0)] rfl (by kernel_rfl) (op_runs rfl fun σ w' hx hg => rptri (ρ := σ.eval) (w := w') (.tmp 50) (.const (.int .i64 2)) rfl hg.1 (i3.ext hx) 2 rfl (by simp) rfl) ?_
      refine LinL.step (s := (.val (.int .i64 (x : Int)))) [(51, some 0)] rfl (by kernel_rfl) (op_runs rfl fun σ w' hx hg => ⟨_, runs_load (ρ := σ.eval) (w := w') (.tmp 51) rfl Try.underlying3 rfl hg.1, rfl⟩) ?_
      refine LinL.step (s := (.val (v3))) [(8, none)] rfl (by kernel_rfl) (op_out 8 (v3) rfl (.inl rfl) rfl) ?_
      refine LinL.step (s := (Sp.ptr (.int .i64 (y)))) [(53, some 0)] rfl (by kernel_rfl) (op_runs rfl fun σ w' hx hg => rptri (ρ := σ.eval) (w := w') (.tmp 53) (.const (.int .i64 3)) rfl hg.1 (i3.ext hx) 3 rfl (by simp) rfl) ?_
      refine LinL.step (s := (.val (.int .i64 (y : Int)))) [(54, some 0)] rfl (by kernel_rfl) (op_runs rfl fun σ w' hx hg => ⟨_, runs_load (ρ := σ.eval) (w := w') (.tmp 54) rfl Try.underlying3 rfl hg.1, rfl⟩) ?_
      refine LinL.step (s := (.val (v5))) [(11, none)] rfl (by kernel_rfl) (op_out 11 (v5) rfl (.inl rfl) rfl) ?_
      refine LinL.step (s := (.val (.agg #[.int .i64 k, .int .i64 i, .int .i64 x, .int .i64 y, v5]))) [(46, some 10), (49, some 7), (52, some 4), (55, some 1), (56, some 0)] rfl (by kernel_rfl) (op_runs rfl fun σ w' hx hg => ⟨_, runs_sbuild (ρ := σ.eval) (w := w') Try.stRec [.int .i64 k, .int .i64 i, .int .i64 x, .int .i64 y, v5] (ps := #[(0, .tmp 46), (1, .tmp 49), (2, .tmp 52), (3, .tmp 55), (4, .tmp 56)]) rfl (by have h46 : σ.tmps.getD 46 undef = .int .i64 (k : Int) := hg.1; have h49 : σ.tmps.getD 49 undef = .int .i64 (i : Int) := hg.2.1; have h52 : σ.tmps.getD 52 undef = .int .i64 (x : Int) := hg.2.2.1; have h55 : σ.tmps.getD 55 undef = .int .i64 (y : Int) := hg.2.2.2.1; have h56 : σ.tmps.getD 56 undef = v5 := hg.2.2.2.2.1; simp only [List.map_cons, List.map_nil, Act.eval, h46, h49, h52, h55, h56, List.foldl_cons, List.foldl_nil, List.set_cons_zero, List.set_cons_succ]) (by have h46 : σ.tmps.getD 46 undef = .int .i64 (k : Int) := hg.1; have h49 : σ.tmps.getD 49 undef = .int .i64 (i : Int) := hg.2.1; have h52 : σ.tmps.getD 52 undef = .int .i64 (x : Int) := hg.2.2.1; have h55 : σ.tmps.getD 55 undef = .int .i64 (y : Int) := hg.2.2.2.1; have h56 : σ.tmps.getD 56 undef = v5 := hg.2.2.2.2.1; intro p hp; simp at hp; rcases hp with rfl | rfl | rfl | rfl | rfl; exact ⟨by decide, by show (σ.tmps.getD 46 undef).cells = #[σ.tmps.getD 46 undef]; rw [h46]; exact rfl⟩; exact ⟨by decide, by show (σ.tmps.getD 49 undef).cells = #[σ.tmps.getD 49 undef]; rw [h49]; exact rfl⟩; exact ⟨by decide, by show (σ.tmps.getD 52 undef).cells = #[σ.tmps.getD 52 undef]; rw [h52]; exact rfl⟩; exact ⟨by decide, by show (σ.tmps.getD 55 undef).cells = #[σ.tmps.getD 55 undef]; rw [h55]; exact rfl⟩; exact ⟨by decide, by show (σ.tmps.getD 56 undef).cells = #[σ.tmps.getD 56 undef]; rw [h56]; exact oneCell_cells b5.one'⟩), rfl⟩) ?_
      refine LinL.step (s := (Sp.fs wd.heap.size [.int .i64 0, .int .i64 0, .int .i64 0, .int .i64 0, .slice none 0 0])) [] rfl (by kernel_rfl) (op_alloc Try.stRec (Nat.le_refl _) rfl rfl) ?_
      intro wN hxN
      simp only [Fin', Sp.ptr, Sp.fs, List.reverse_cons, List.reverse_nil, List.nil_append, List.cons_append, List.drop_zero, List.take_succ_cons, List.take_zero]
      intro q45 hq45 q48 hq48 q51 hq51 q54 hq54 q14 hq14
      simp only [Act.put, List.setIfInBounds_toArray, List.set_cons_zero, List.set_cons_succ]
      obtain ⟨g7, rfl, hg7, f7⟩ := hq14
      refine wpOp_of_list rfl ?_
      refine w_astore Try.stRec (us := [.int .i64 k, .int .i64 i, .int .i64 x, .int .i64 y, v5]) _ _ rfl rfl rfl rfl rfl f7 rfl rfl (rec5_one b5.one') ?_; intro w7 hm7 f7'; replace f7 := f7'; clear f7'
      have hx7 : Ext wd w7 := hm7.after hxN (fun j e => e ▸ hg7)
      replace f2 := (f2.ext hxN).mod hm7 (fun e => by have := f2.lt; omega)
      have hX3 := hx7
      replace hX := hX.trans hx7
      show Ph Try.prog _ _ 16 _ _
      refine Ph.rest 16 0 (by kernel_rfl) ?_
      intro wN2 hxN2
      simp only [Fin', List.reverse_nil, List.drop_zero, List.drop_succ_cons, List.take_zero]
      replace f7 := f7.ext hxN2; replace f2 := f2.ext hxN2; replace hX := hX.trans hxN2; replace hX3 := hX3.trans hxN2
      clear hxN2 hm7 hx7 hg7 hxN
      go_wp2_with ((first
        | (refine w_aload Try.stRec _ rfl rfl rfl f7 rfl ?_)
        | (go_at_call 12; refine (refBytes_any (RecR.made (r := ⟨k, i, x, y, rtL s⟩) b5 hraw.out hX3)).mono ?_; rintro e w9 ⟨v9, rfl, o9, hx9⟩; rw [E1.out]; have b9 := o9.byt; rw [E2.out] at b9; replace f7 := f7.ext hx9; replace f2 := f2.ext hx9; replace hX := hX.trans hx9; replace hX3 := hX3.trans hx9; clear hx9 o9)
        | fail) <;> (try simp only [Act.put, List.setIfInBounds_toArray, List.set_cons_zero, List.set_cons_succ]))
      refine wp_region_phx (by kernel_rfl) ?_; intro wd hxd; replace b9 := b9.ext hxd; replace f7 := f7.ext hxd; replace f2 := f2.ext hxd; replace hX := hX.trans hxd; replace hX3 := hX3.trans hxd; have hv0 := hv.ext hX
      refine Ph.rest 0 19 (by kernel_rfl) ?_
      refine LinL.step (s := (.val (.int .i64 51))) [(16, none)] rfl (by kernel_rfl) (op_out 16 (.int .i64 51) rfl (.inl rfl) rfl) ?_
      refine LinL.step (s := (.val (.bool true))) [(63, some 0)] rfl (by kernel_rfl) (op_runs rfl fun σ w' hx hg => ⟨(.bool true), by have h63 : σ.tmps.getD 63 undef = .int .i64 51 := hg.1; unfold Runs execOp; simp [Act.eval, h63, go_sem], rfl⟩) ?_
      refine LinL.step (s := (.val (.bool true))) [(64, some 0)] rfl (by kernel_rfl) (op_copy 64 0 (.val (.bool true)) rfl (.inl rfl) rfl) ?_
      refine LinL.step (s := .val undef) [(15, none), (65, some 0)] rfl (by kernel_rfl) (op_no (reads := [(15, none)]) 2 65 0 false rfl rfl rfl) ?_
      refine LinL.step (s := .val undef) [(66, some 0), (65, some 1)] rfl (by kernel_rfl) (op_no (reads := [(66, some 0)]) 2 65 1 false rfl rfl rfl) ?_
      refine LinL.step (s := .val undef) [(0, none), (65, some 2)] rfl (by kernel_rfl) (op_no (reads := [(0, none)]) 2 65 2 false rfl rfl rfl) ?_
      refine LinL.step (s := .val undef) [(68, some 0), (65, some 3)] rfl (by kernel_rfl) (op_no (reads := [(68, some 0)]) 2 65 3 false rfl rfl rfl) ?_
      refine LinL.step (s := .val undef) [(67, some 2), (69, some 0), (65, some 4)] rfl (by kernel_rfl) (op_no (reads := [(67, some 2), (69, some 0)]) 2 65 4 false rfl rfl rfl) ?_
      refine LinL.step (s := (.val (.bool true))) [(65, some 5), (70, some 0)] rfl (by kernel_rfl) (op_runs rfl fun σ w' hx hg => ⟨_, runs_pick_t (ρ := σ.eval) (w := w') (.tmp 65) (.const (.bool true)) (.tmp 70) rfl hg.1 rfl, rfl⟩) ?_
      refine LinL.step (s := (.val (.bool true))) [(71, some 0)] rfl (by kernel_rfl) (op_copy 71 0 (.val (.bool true)) rfl (.inl rfl) rfl) ?_
      refine LinL.step (s := .val undef) [(15, none), (72, some 0)] rfl (by kernel_rfl) (op_no (reads := [(15, none)]) 9 72 0 false rfl rfl rfl) ?_
      refine LinL.step (s := .val undef) [(73, some 0), (72, some 1)] rfl (by kernel_rfl) (op_no (reads := [(73, some 0)]) 9 72 1 false rfl rfl rfl) ?_
      refine LinL.step (s := .val undef) [(0, none), (72, some 2)] rfl (by kernel_rfl) (op_no (reads := [(0, none)]) 9 72 2 false rfl rfl rfl) ?_
      refine LinL.step (s := .val undef) [(15, none), (72, some 3)] rfl (by kernel_rfl) (op_no (reads := [(15, none)]) 9 72 3 false rfl rfl rfl) ?_
      refine LinL.step (s := .val undef) [(76, some 0), (72, some 4)] rfl (by kernel_rfl) (op_no (reads := [(76, some 0)]) 9 72 4 false rfl rfl rfl) ?_
      refine LinL.step (s := .val undef) [(75, some 2), (77, some 0), (72, some 5)] rfl (by kernel_rfl) (op_no (reads := [(75, some 2), (77, some 0)]) 9 72 5 false rfl rfl rfl) ?_
      refine LinL.step (s := .val undef) [(78, some 0), (72, some 6)] rfl (by kernel_rfl) (op_no (reads := [(78, some 0)]) 9 72 6 false rfl rfl rfl) ?_
      refine LinL.step (s := .val undef) [(74, some 5), (79, some 0), (72, some 7)] rfl (by kernel_rfl) (op_no (reads := [(74, some 5), (79, some 0)]) 9 72 7 false rfl rfl rfl) ?_
      refine LinL.step (s := (.val (.bool true))) [(72, some 8), (80, some 0)] rfl (by kernel_rfl) (op_runs rfl fun σ w' hx hg => ⟨_, runs_pick_t (ρ := σ.eval) (w := w') (.tmp 72) (.const (.bool true)) (.tmp 80) rfl hg.1 rfl, rfl⟩) ?_
      intro wN hxN
      simp only [Fin', List.reverse_cons, List.reverse_nil, List.nil_append, List.cons_append, List.drop_zero, List.take_succ_cons, List.take_zero]
      simp only [Act.put, List.setIfInBounds_toArray, List.set_cons_zero, List.set_cons_succ]
      replace b9 := b9.ext hxN; replace f7 := f7.ext hxN; replace f2 := f2.ext hxN; replace hX := hX.trans hxN; replace hX3 := hX3.trans hxN; clear hxN hv0
      go_wp2_with ((first
        | (refine w_sbuild Try.stRec zero5 rfl rfl rfl (by intro p hp; simp at hp) ?_)
        | (refine w_astore Try.stRec (us := zero5) _ _ rfl rfl rfl rfl rfl f2 rfl rfl zero5_one ?_; intro w8 hm8 f8; have hX8 := hm8.after hX (fun i e => e ▸ hg2))
        | fail) <;> (try simp only [Act.put, List.setIfInBounds_toArray, List.set_cons_zero, List.set_cons_succ]))
      exact bodyPost_ret (ret_three Try.stRec rfl rfl rfl rfl f8 rfl) rfl (No.out _ w8 rfl hX8)
    have E1 := hide_ (show jErr ⟨k, i, x, y, rtL s⟩ = 0 from if_pos hok)
    obtain ⟨bs, hbs⟩ : ∃ bs, bs = (⟨k, i, x, y, rtL s⟩ : RecD).bs := ⟨_, rfl⟩
    have E2 := hide_ (show jB ⟨k, i, x, y, rtL s⟩ = bs from hbs ▸ if_pos hok)
    have hbs256 : ∀ z ∈ bs, z < 256 := by rw [hbs]; exact RecD.bs_lt hok (rtL_lt hs.out)
    have hbslen : bs.length ≤ 1048 := by rw [hbs]; exact RecD.bs_len2 hok
    by_cases hle : bs.length ≤ l.length
    rotate_left
    · have t5 : decide (l.length < bs.length) = true := decide_eq_true (by omega)
      replace No := No (fst_c4 h1 h2 h3 fun h => hle (by rw [hbs]; exact (List.isPrefixOf_iff_prefix.1 h.2).length_le))
      clear hbs
      replace h1 := hide_ h1
      replace h2 := hide_ h2
      replace h3 := hide_ h3
      clear hok
      go_enter Try.func36, Try.ntmps36
      go_wp2_with ((first
        | (refine w_alloc Try.stRec rfl rfl ?_; intro g2 w1 hg2 hX f2)
        | (go_at_call 47; refine (refRNums4_yes h2.out (rtL_lt hl) hBlen.out b1).mono ?_; rintro e w3 ⟨v3, v4, rfl, i3, b4, hx3⟩; replace f2 := f2.ext hx3; replace hX := hX.trans hx3; clear hx3 b1)
        | (go_at_call 46; refine (refRText_yes h3.out hs.out hslen.out b4).mono ?_; rintro e w4 ⟨v5, v6, rfl, n5, b6, hx4⟩; replace n5 := n5.mono hX.size; have b5 := n5.1; replace i3 := i3.ext hx4; replace f2 := f2.ext hx4; replace hX := hX.trans hx4; clear hx4 b4 b6)
        | (go_at_call 46; refine (refRText_yes h1.out hl hlen.out (hv.ext hX)).mono ?_; rintro e w2 ⟨v1, v2, rfl, n1, b2, hx2⟩; have b1 := n1.1; replace f2 := f2.ext hx2; replace hX := hX.trans hx2; clear hx2 n1 b2)
        | fail) <;> (try simp only [Act.put, List.setIfInBounds_toArray, List.set_cons_zero, List.set_cons_succ]))
      refine wp_region_phx (by kernel_rfl) ?_; intro wd hxd; replace i3 := i3.ext hxd; replace b5 := b5.ext hxd; have hN5 := hxd; replace f2 := f2.ext hxd; replace hX := hX.trans hxd
      refine Ph.gate 0 15 (by kernel_rfl) ?_
      refine LinL.step (s := (.val (v3))) [(8, none)] rfl (by kernel_rfl) (op_out 8 (v3) rfl (.inl rfl) rfl) ?_
      refine LinL.step (s := (Sp.ptr (.int .i64 (k)))) [(44, some 0)] rfl (by kernel_rfl) (op_runs rfl fun σ w' hx hg => rptri (ρ := σ.eval) (w := w') (.tmp 44) (.const (.int .i64 0)) rfl hg.1 (i3.ext hx) 0 rfl (by simp) rfl) ?_
      refine LinL.step (s := (.val (.int .i64 (k : Int)))) [(45, some 0)] rfl (by kernel_rfl) (op_runs rfl fun σ w' hx hg => ⟨_, runs_load (ρ := σ.eval) (w := w') (.tmp 45) rfl Try.underlying3 rfl hg.1, rfl⟩) ?_
      refine LinL.step (s := (.val (v3))) [(8, none)] rfl (by kernel_rfl) (op_out 8 (v3) rfl (.inl rfl) rfl) ?_
      refine LinL.step (s := (Sp.ptr (.int .i64 (i)))) [(47, some 0)] rfl (by kernel_rfl) (op_runs rfl fun σ w' hx hg => rptri (ρ := σ.eval) (w := w') (.tmp 47) (.const (.int .i64 1)) rfl hg.1 (i3.ext hx) 1 rfl (by simp) rfl) ?_
      refine LinL.step (s := (.val (.int .i64 (i : Int)))) [(48, some 0)] rfl (by kernel_rfl) (op_runs rfl fun σ w' hx hg => ⟨_, runs_load (ρ := σ.eval) (w := w') (.tmp 48) rfl Try.underlying3 rfl hg.1, rfl⟩) ?_
      refine LinL.step (s := (.val (v3))) [(8, none)] rfl (by kernel_rfl) (op_out 8 (v3) rfl (.inl rfl) rfl) ?_
      refine LinL.step (s := (Sp.ptr (.int .i64 (x)))) [(50, some 0)] rfl (by kernel_rfl) (op_runs rfl fun σ w' hx hg => rptri (ρ := σ.eval) (w := w') (.tmp 50) (.const (.int .i64 2)) rfl hg.1 (i3.ext hx) 2 rfl (by simp) rfl) ?_
      refine LinL.step (s := (.val (.int .i64 (x : Int)))) [(51, some 0)] rfl (by kernel_rfl) (op_runs rfl fun σ w' hx hg => ⟨_, runs_load (ρ := σ.eval) (w := w') (.tmp 51) rfl Try.underlying3 rfl hg.1, rfl⟩) ?_
      refine LinL.step (s := (.val (v3))) [(8, none)] rfl (by kernel_rfl) (op_out 8 (v3) rfl (.inl rfl) rfl) ?_
      refine LinL.step (s := (Sp.ptr (.int .i64 (y)))) [(53, some 0)] rfl (by kernel_rfl) (op_runs rfl fun σ w' hx hg => rptri (ρ := σ.eval) (w := w') (.tmp 53) (.const (.int .i64 3)) rfl hg.1 (i3.ext hx) 3 rfl (by simp) rfl) ?_
      refine LinL.step (s := (.val (.int .i64 (y : Int)))) [(54, some 0)] rfl (by kernel_rfl) (op_runs rfl fun σ w' hx hg => ⟨_, runs_load (ρ := σ.eval) (w := w') (.tmp 54) rfl Try.underlying3 rfl hg.1, rfl⟩) ?_
      refine LinL.step (s := (.val (v5))) [(11, none)] rfl (by kernel_rfl) (op_out 11 (v5) rfl (.inl rfl) rfl) ?_
      refine LinL.step (s := (.val (.agg #[.int .i64 k, .int .i64 i, .int .i64 x, .int .i64 y, v5]))) [(46, some 10), (49, some 7), (52, some 4), (55, some 1), (56, some 0)] rfl (by kernel_rfl) (op_runs rfl fun σ w' hx hg => ⟨_, runs_sbuild (ρ := σ.eval) (w := w') Try.stRec [.int .i64 k, .int .i64 i, .int .i64 x, .int .i64 y, v5] (ps := #[(0, .tmp 46), (1, .tmp 49), (2, .tmp 52), (3, .tmp 55), (4, .tmp 56)]) rfl (by have h46 : σ.tmps.getD 46 undef = .int .i64 (k : Int) := hg.1; have h49 : σ.tmps.getD 49 undef = .int .i64 (i : Int) := hg.2.1; have h52 : σ.tmps.getD 52 undef = .int .i64 (x : Int) := hg.2.2.1; have h55 : σ.tmps.getD 55 undef = .int .i64 (y : Int) := hg.2.2.2.1; have h56 : σ.tmps.getD 56 undef = v5 := hg.2.2.2.2.1; simp only [List.map_cons, List.map_nil, Act.eval, h46, h49, h52, h55, h56, List.foldl_cons, List.foldl_nil, List.set_cons_zero, List.set_cons_succ]) (by have h46 : σ.tmps.getD 46 undef = .int .i64 (k : Int) := hg.1; have h49 : σ.tmps.getD 49 undef = .int .i64 (i : Int) := hg.2.1; have h52 : σ.tmps.getD 52 undef = .int .i64 (x : Int) := hg.2.2.1; have h55 : σ.tmps.getD 55 undef = .int .i64 (y : Int) := hg.2.2.2.1; have h56 : σ.tmps.getD 56 undef = v5 := hg.2.2.2.2.1; intro p hp; simp at hp; rcases hp with rfl | rfl | rfl | rfl | rfl; exact ⟨by decide, by show (σ.tmps.getD 46 undef).cells = #[σ.tmps.getD 46 undef]; rw [h46]; exact rfl⟩; exact ⟨by decide, by show (σ.tmps.getD 49 undef).cells = #[σ.tmps.getD 49 undef]; rw [h49]; exact rfl⟩; exact ⟨by decide, by show (σ.tmps.getD 52 undef).cells = #[σ.tmps.getD 52 undef]; rw [h52]; exact rfl⟩; exact ⟨by decide, by show (σ.tmps.getD 55 undef).cells = #[σ.tmps.getD 55 undef]; rw [h55]; exact rfl⟩; exact ⟨by decide, by show (σ.tmps.getD 56 undef).cells = #[σ.tmps.getD 56 undef]; rw [h56]; exact oneCell_cells b5.one'⟩), rfl⟩) ?_
      refine LinL.step (s := (Sp.fs wd.heap.size [.int .i64 0, .int .i64 0, .int .i64 0, .int .i64 0, .slice none 0 0])) [] rfl (by kernel_rfl) (op_alloc Try.stRec (Nat.le_refl _) rfl rfl) ?_
      intro wN hxN
      simp only [Fin', Sp.ptr, Sp.fs, List.reverse_cons, List.reverse_nil, List.nil_append, List.cons_append, List.drop_zero, List.take_succ_cons, List.take_zero]
      intro q45 hq45 q48 hq48 q51 hq51 q54 hq54 q14 hq14
      simp only [Act.put, List.setIfInBounds_toArray, List.set_cons_zero, List.set_cons_succ]
      obtain ⟨g7, rfl, hg7, f7⟩ := hq14
      refine wpOp_of_list rfl ?_
      refine w_astore Try.stRec (us := [.int .i64 k, .int .i64 i, .int .i64 x, .int .i64 y, v5]) _ _ rfl rfl rfl rfl rfl f7 rfl rfl (rec5_one b5.one') ?_; intro w7 hm7 f7'; replace f7 := f7'; clear f7'
      have hx7 : Ext wd w7 := hm7.after hxN (fun j e => e ▸ hg7)
      replace f2 := (f2.ext hxN).mod hm7 (fun e => by have := f2.lt; omega)
      have hX3 := hx7
      replace hX := hX.trans hx7
      show Ph Try.prog _ _ 16 _ _
      refine Ph.rest 16 0 (by kernel_rfl) ?_
      intro wN2 hxN2
      simp only [Fin', List.reverse_nil, List.drop_zero, List.drop_succ_cons, List.take_zero]
      replace f7 := f7.ext hxN2; replace f2 := f2.ext hxN2; replace hX := hX.trans hxN2; replace hX3 := hX3.trans hxN2
      clear hxN2 hm7 hx7 hg7 hxN
      go_wp2_with ((first
        | (refine w_aload Try.stRec _ rfl rfl rfl f7 rfl ?_)
        | (go_at_call 12; refine (refBytes_any (RecR.made (r := ⟨k, i, x, y, rtL s⟩) b5 hraw.out hX3)).mono ?_; rintro e w9 ⟨v9, rfl, o9, hx9⟩; rw [E1.out]; have b9 := o9.byt; rw [E2.out] at b9; replace f7 := f7.ext hx9; replace f2 := f2.ext hx9; replace hX := hX.trans hx9; replace hX3 := hX3.trans hx9; clear hx9 o9)
        | fail) <;> (try simp only [Act.put, List.setIfInBounds_toArray, List.set_cons_zero, List.set_cons_succ]))
      refine wp_region_phx (by kernel_rfl) ?_; intro wd hxd; replace b9 := b9.ext hxd; replace f7 := f7.ext hxd; replace f2 := f2.ext hxd; replace hX := hX.trans hxd; replace hX3 := hX3.trans hxd; have hv0 := hv.ext hX
      refine Ph.rest 0 19 (by kernel_rfl) ?_
      refine LinL.step (s := (.val (.int .i64 0))) [(16, none)] rfl (by kernel_rfl) (op_out 16 (.int .i64 0) rfl (.inl rfl) rfl) ?_
      refine LinL.step (s := (.val (.bool false))) [(63, some 0)] rfl (by kernel_rfl) (op_runs rfl fun σ w' hx hg => ⟨(.bool false), by have h63 : σ.tmps.getD 63 undef = .int .i64 0 := hg.1; unfold Runs execOp; simp [Act.eval, h63, go_sem], rfl⟩) ?_
      refine LinL.step (s := (.val (.bool false))) [(64, some 0)] rfl (by kernel_rfl) (op_copy 64 0 (.val (.bool false)) rfl (.inl rfl) rfl) ?_
      refine LinL.step (s := (.val (v9))) [(15, none), (65, some 0)] rfl (by kernel_rfl) (op_yes (reads := [(15, none)]) 2 65 0 false rfl rfl rfl (op_out 15 (v9) rfl (.inl rfl) rfl)) ?_
      refine LinL.step (s := (.val (.int .i64 (bs.length : Nat)))) [(66, some 0), (65, some 1)] rfl (by kernel_rfl) (op_yes (reads := [(66, some 0)]) 2 65 1 false rfl rfl rfl (op_runs rfl fun σ w' hx hg => ⟨_, runs_lenb (ρ := σ.eval) (w := w') (.tmp 66) rfl hg.1 (b9.ext hx), rfl⟩)) ?_
      refine LinL.step (s := (.val (v))) [(0, none), (65, some 2)] rfl (by kernel_rfl) (op_yes (reads := [(0, none)]) 2 65 2 false rfl rfl rfl (op_out 0 (v) rfl (.inl rfl) rfl)) ?_
      refine LinL.step (s := (.val (.int .i64 (l.length : Nat)))) [(68, some 0), (65, some 3)] rfl (by kernel_rfl) (op_yes (reads := [(68, some 0)]) 2 65 3 false rfl rfl rfl (op_runs rfl fun σ w' hx hg => ⟨_, runs_lenb (ρ := σ.eval) (w := w') (.tmp 68) rfl hg.1 (hv0.ext hx), rfl⟩)) ?_
      refine LinL.step (s := (.val (.bool true))) [(67, some 2), (69, some 0), (65, some 4)] rfl (by kernel_rfl) (op_yes (reads := [(67, some 2), (69, some 0)]) 2 65 4 false rfl rfl rfl (op_runs rfl fun σ w' hx hg => ⟨(.bool true), by have h67 : σ.tmps.getD 67 undef = .int .i64 (bs.length : Nat) := hg.1; have h69 : σ.tmps.getD 69 undef = .int .i64 (l.length : Nat) := hg.2.1; unfold Runs execOp; simp [Act.eval, h67, h69, go_sem, t5], rfl⟩)) ?_
      refine LinL.step (s := (.val (.bool true))) [(65, some 5), (70, some 0)] rfl (by kernel_rfl) (op_runs rfl fun σ w' hx hg => ⟨_, runs_pick_f (ρ := σ.eval) (w := w') (.tmp 65) (.const (.bool true)) (.tmp 70) rfl hg.1 hg.2.1, rfl⟩) ?_
      refine LinL.step (s := (.val (.bool true))) [(71, some 0)] rfl (by kernel_rfl) (op_copy 71 0 (.val (.bool true)) rfl (.inl rfl) rfl) ?_
      refine LinL.step (s := .val undef) [(15, none), (72, some 0)] rfl (by kernel_rfl) (op_no (reads := [(15, none)]) 9 72 0 false rfl rfl rfl) ?_
      refine LinL.step (s := .val undef) [(73, some 0), (72, some 1)] rfl (by kernel_rfl) (op_no (reads := [(73, some 0)]) 9 72 1 false rfl rfl rfl) ?_
      refine LinL.step (s := .val undef) [(0, none), (72, some 2)] rfl (by kernel_rfl) (op_no (reads := [(0, none)]) 9 72 2 false rfl rfl rfl) ?_
      refine LinL.step (s := .val undef) [(15, none), (72, some 3)] rfl (by kernel_rfl) (op_no (reads := [(15, none)]) 9 72 3 false rfl rfl rfl) ?_
      refine LinL.step (s := .val undef) [(76, some 0), (72, some 4)] rfl (by kernel_rfl) (op_no (reads := [(76, some 0)]) 9 72 4 false rfl rfl rfl) ?_
      refine LinL.step (s := .val undef) [(75, some 2), (77, some 0), (72, some 5)] rfl (by kernel_rfl) (op_no (reads := [(75, some 2), (77, some 0)]) 9 72 5 false rfl rfl rfl) ?_
      refine LinL.step (s := .val undef) [(78, some 0), (72, some 6)] rfl (by kernel_rfl) (op_no (reads := [(78, some 0)]) 9 72 6 false rfl rfl rfl) ?_
      refine LinL.step (s := .val undef) [(74, some 5), (79, some 0), (72, some 7)] rfl (by kernel_rfl) (op_no (reads := [(74, some 5), (79, some 0)]) 9 72 7 false rfl rfl rfl) ?_
      refine LinL.step (s := (.val (.bool true))) [(72, some 8), (80, some 0)] rfl (by kernel_rfl) (op_runs rfl fun σ w' hx hg => ⟨_, runs_pick_t (ρ := σ.eval) (w := w') (.tmp 72) (.const (.bool true)) (.tmp 80) rfl hg.1 rfl, rfl⟩) ?_
      intro wN hxN
      simp only [Fin', List.reverse_cons, List.reverse_nil, List.nil_append, List.cons_append, List.drop_zero, List.take_succ_cons, List.take_zero]
      simp only [Act.put, List.setIfInBounds_toArray, List.set_cons_zero, List.set_cons_succ]
      replace b9 := b9.ext hxN; replace f7 := f7.ext hxN; replace f2 := f2.ext hxN; replace hX := hX.trans hxN; replace hX3 := hX3.trans hxN; clear hxN hv0
      go_wp2_with ((first
        | (refine w_sbuild Try.stRec zero5 rfl rfl rfl (by intro p hp; simp at hp) ?_)
        | (refine w_astore Try.stRec (us := zero5) _ _ rfl rfl rfl rfl rfl f2 rfl rfl zero5_one ?_; intro w8 hm8 f8; have hX8 := hm8.after hX (fun i e => e ▸ hg2))
        | fail) <;> (try simp only [Act.put, List.setIfInBounds_toArray, List.set_cons_zero, List.set_cons_succ]))
      exact bodyPost_ret (ret_three Try.stRec rfl rfl rfl rfl f8 rfl) rfl (No.out _ w8 rfl hX8)
    have t5 : decide (l.length < bs.length) = false := decide_eq_false (by omega)
    by_cases heq : bs = l.take bs.length
    rotate_left
    · have hst := strN_ne' hbs256 (fun z hz => hl z (List.mem_of_mem_take hz)) heq
      replace No := No (fst_c4 h1 h2 h3 fun h => heq (by have := List.prefix_iff_eq_take.1 (List.isPrefixOf_iff_prefix.1 h.2); rw [hbs]; exact this))
      clear hbs heq
      replace h1 := hide_ h1
      replace h2 := hide_ h2
      replace h3 := hide_ h3
      clear hok
      go_enter Try.func36, Try.ntmps36
      go_wp2_with ((first
        | (refine w_alloc Try.stRec rfl rfl ?_; intro g2 w1 hg2 hX f2)
        | (go_at_call 47; refine (refRNums4_yes h2.out (rtL_lt hl) hBlen.out b1).mono ?_; rintro e w3 ⟨v3, v4, rfl, i3, b4, hx3⟩; replace f2 := f2.ext hx3; replace hX := hX.trans hx3; clear hx3 b1)
        | (go_at_call 46; refine (refRText_yes h3.out hs.out hslen.out b4).mono ?_; rintro e w4 ⟨v5, v6, rfl, n5, b6, hx4⟩; replace n5 := n5.mono hX.size; have b5 := n5.1; replace i3 := i3.ext hx4; replace f2 := f2.ext hx4; replace hX := hX.trans hx4; clear hx4 b4 b6)
        | (go_at_call 46; refine (refRText_yes h1.out hl hlen.out (hv.ext hX)).mono ?_; rintro e w2 ⟨v1, v2, rfl, n1, b2, hx2⟩; have b1 := n1.1; replace f2 := f2.ext hx2; replace hX := hX.trans hx2; clear hx2 n1 b2)
        | fail) <;> (try simp only [Act.put, List.setIfInBounds_toArray, List.set_cons_zero, List.set_cons_succ]))
      refine wp_region_phx (by kernel_rfl) ?_; intro wd hxd; replace i3 := i3.ext hxd; replace b5 := b5.ext hxd; have hN5 := hxd; replace f2 := f2.ext hxd; replace hX := hX.trans hxd
      refine Ph.gate 0 15 (by kernel_rfl) ?_
      refine LinL.step (s := (.val (v3))) [(8, none)] rfl (by kernel_rfl) (op_out 8 (v3) rfl (.inl rfl) rfl) ?_
      refine LinL.step (s := (Sp.ptr (.int .i64 (k)))) [(44, some 0)] rfl (by kernel_rfl) (op_runs rfl fun σ w' hx hg => rptri (ρ := σ.eval) (w := w') (.tmp 44) (.const (.int .i64 0)) rfl hg.1 (i3.ext hx) 0 rfl (by simp) rfl) ?_
      refine LinL.step (s := (.val (.int .i64 (k : Int)))) [(45, some 0)] rfl (by kernel_rfl) (op_runs rfl fun σ w' hx hg => ⟨_, runs_load (ρ := σ.eval) (w := w') (.tmp 45) rfl Try.underlying3 rfl hg.1, rfl⟩) ?_
      refine LinL.step (s := (.val (v3))) [(8, none)] rfl (by kernel_rfl) (op_out 8 (v3) rfl (.inl rfl) rfl) ?_
      refine LinL.step (s := (Sp.ptr (.int .i64 (i)))) [(47, some 0)] rfl (by kernel_rfl) (op_runs rfl fun σ w' hx hg => rptri (ρ := σ.eval) (w := w') (.tmp 47) (.const (.int .i64 1)) rfl hg.1 (i3.ext hx) 1 rfl (by simp) rfl) ?_
      refine LinL.step (s := (.val (.int .i64 (i : Int)))) [(48, some 0)] rfl (by kernel_rfl) (op_runs rfl fun σ w' hx hg => ⟨_, runs_load (ρ := σ.eval) (w := w') (.tmp 48) rfl Try.underlying3 rfl hg.1, rfl⟩) ?_
      refine LinL.step (s := (.val (v3))) [(8, none)] rfl (by kernel_rfl) (op_out 8 (v3) rfl (.inl rfl) rfl) ?_
      refine LinL.step (s := (Sp.ptr (.int .i64 (x)))) [(50, some 0)] rfl (by kernel_rfl) (op_runs rfl fun σ w' hx hg => rptri (ρ := σ.eval) (w := w') (.tmp 50) (.const (.int .i64 2)) rfl hg.1 (i3.ext hx) 2 rfl (by simp) rfl) ?_
      refine LinL.step (s := (.val (.int .i64 (x : Int)))) [(51, some 0)] rfl (by kernel_rfl) (op_runs rfl fun σ w' hx hg => ⟨_, runs_load (ρ := σ.eval) (w := w') (.tmp 51) rfl Try.underlying3 rfl hg.1, rfl⟩) ?_
      refine LinL.step (s := (.val (v3))) [(8, none)] rfl (by kernel_rfl) (op_out 8 (v3) rfl (.inl rfl) rfl) ?_
      refine LinL.step (s := (Sp.ptr (.int .i64 (y)))) [(53, some 0)] rfl (by kernel_rfl) (op_runs rfl fun σ w' hx hg => rptri (ρ := σ.eval) (w := w') (.tmp 53) (.const (.int .i64 3)) rfl hg.1 (i3.ext hx) 3 rfl (by simp) rfl) ?_
      refine LinL.step (s := (.val (.int .i64 (y : Int)))) [(54, some 0)] rfl (by kernel_rfl) (op_runs rfl fun σ w' hx hg => ⟨_, runs_load (ρ := σ.eval) (w := w') (.tmp 54) rfl Try.underlying3 rfl hg.1, rfl⟩) ?_
      refine LinL.step (s := (.val (v5))) [(11, none)] rfl (by kernel_rfl) (op_out 11 (v5) rfl (.inl rfl) rfl) ?_
      refine LinL.step (s := (.val (.agg #[.int .i64 k, .int .i64 i, .int .i64 x, .int .i64 y, v5]))) [(46, some 10), (49, some 7), (52, some 4), (55, some 1), (56, some 0)] rfl (by kernel_rfl) (op_runs rfl fun σ w' hx hg => ⟨_, runs_sbuild (ρ := σ.eval) (w := w') Try.stRec [.int .i64 k, .int .i64 i, .int .i64 x, .int .i64 y, v5] (ps := #[(0, .tmp 46), (1, .tmp 49), (2, .tmp 52), (3, .tmp 55), (4, .tmp 56)]) rfl (by have h46 : σ.tmps.getD 46 undef = .int .i64 (k : Int) := hg.1; have h49 : σ.tmps.getD 49 undef = .int .i64 (i : Int) := hg.2.1; have h52 : σ.tmps.getD 52 undef = .int .i64 (x : Int) := hg.2.2.1; have h55 : σ.tmps.getD 55 undef = .int .i64 (y : Int) := hg.2.2.2.1; have h56 : σ.tmps.getD 56 undef = v5 := hg.2.2.2.2.1; simp only [List.map_cons, List.map_nil, Act.eval, h46, h49, h52, h55, h56, List.foldl_cons, List.foldl_nil, List.set_cons_zero, List.set_cons_succ]) (by have h46 : σ.tmps.getD 46 undef = .int .i64 (k : Int) := hg.1; have h49 : σ.tmps.getD 49 undef = .int .i64 (i : Int) := hg.2.1; have h52 : σ.tmps.getD 52 undef = .int .i64 (x : Int) := hg.2.2.1; have h55 : σ.tmps.getD 55 undef = .int .i64 (y : Int) := hg.2.2.2.1; have h56 : σ.tmps.getD 56 undef = v5 := hg.2.2.2.2.1; intro p hp; simp at hp; rcases hp with rfl | rfl | rfl | rfl | rfl; exact ⟨by decide, by show (σ.tmps.getD 46 undef).cells = #[σ.tmps.getD 46 undef]; rw [h46]; exact rfl⟩; exact ⟨by decide, by show (σ.tmps.getD 49 undef).cells = #[σ.tmps.getD 49 undef]; rw [h49]; exact rfl⟩; exact ⟨by decide, by show (σ.tmps.getD 52 undef).cells = #[σ.tmps.getD 52 undef]; rw [h52]; exact rfl⟩; exact ⟨by decide, by show (σ.tmps.getD 55 undef).cells = #[σ.tmps.getD 55 undef]; rw [h55]; exact rfl⟩; exact ⟨by decide, by show (σ.tmps.getD 56 undef).cells = #[σ.tmps.getD 56 undef]; rw [h56]; exact oneCell_cells b5.one'⟩), rfl⟩) ?_
      refine LinL.step (s := (Sp.fs wd.heap.size [.int .i64 0, .int .i64 0, .int .i64 0, .int .i64 0, .slice none 0 0])) [] rfl (by kernel_rfl) (op_alloc Try.stRec (Nat.le_refl _) rfl rfl) ?_
      intro wN hxN
      simp only [Fin', Sp.ptr, Sp.fs, List.reverse_cons, List.reverse_nil, List.nil_append, List.cons_append, List.drop_zero, List.take_succ_cons, List.take_zero]
      intro q45 hq45 q48 hq48 q51 hq51 q54 hq54 q14 hq14
      simp only [Act.put, List.setIfInBounds_toArray, List.set_cons_zero, List.set_cons_succ]
      obtain ⟨g7, rfl, hg7, f7⟩ := hq14
      refine wpOp_of_list rfl ?_
      refine w_astore Try.stRec (us := [.int .i64 k, .int .i64 i, .int .i64 x, .int .i64 y, v5]) _ _ rfl rfl rfl rfl rfl f7 rfl rfl (rec5_one b5.one') ?_; intro w7 hm7 f7'; replace f7 := f7'; clear f7'
      have hx7 : Ext wd w7 := hm7.after hxN (fun j e => e ▸ hg7)
      replace f2 := (f2.ext hxN).mod hm7 (fun e => by have := f2.lt; omega)
      have hX3 := hx7
      replace hX := hX.trans hx7
      show Ph Try.prog _ _ 16 _ _
      refine Ph.rest 16 0 (by kernel_rfl) ?_
      intro wN2 hxN2
      simp only [Fin', List.reverse_nil, List.drop_zero, List.drop_succ_cons, List.take_zero]
      replace f7 := f7.ext hxN2; replace f2 := f2.ext hxN2; replace hX := hX.trans hxN2; replace hX3 := hX3.trans hxN2
      clear hxN2 hm7 hx7 hg7 hxN
      go_wp2_with ((first
        | (refine w_aload Try.stRec _ rfl rfl rfl f7 rfl ?_)
        | (go_at_call 12; refine (refBytes_any (RecR.made (r := ⟨k, i, x, y, rtL s⟩) b5 hraw.out hX3)).mono ?_; rintro e w9 ⟨v9, rfl, o9, hx9⟩; rw [E1.out]; have b9 := o9.byt; rw [E2.out] at b9; replace f7 := f7.ext hx9; replace f2 := f2.ext hx9; replace hX := hX.trans hx9; replace hX3 := hX3.trans hx9; clear hx9 o9)
        | fail) <;> (try simp only [Act.put, List.setIfInBounds_toArray, List.set_cons_zero, List.set_cons_succ]))
      refine wp_region_phx (by kernel_rfl) ?_; intro wd hxd; replace b9 := b9.ext hxd; replace f7 := f7.ext hxd; replace f2 := f2.ext hxd; replace hX := hX.trans hxd; replace hX3 := hX3.trans hxd; have hv0 := hv.ext hX
      refine Ph.rest 0 19 (by kernel_rfl) ?_
      refine LinL.step (s := (.val (.int .i64 0))) [(16, none)] rfl (by kernel_rfl) (op_out 16 (.int .i64 0) rfl (.inl rfl) rfl) ?_
      refine LinL.step (s := (.val (.bool false))) [(63, some 0)] rfl (by kernel_rfl) (op_runs rfl fun σ w' hx hg => ⟨(.bool false), by have h63 : σ.tmps.getD 63 undef = .int .i64 0 := hg.1; unfold Runs execOp; simp [Act.eval, h63, go_sem], rfl⟩) ?_
      refine LinL.step (s := (.val (.bool false))) [(64, some 0)] rfl (by kernel_rfl) (op_copy 64 0 (.val (.bool false)) rfl (.inl rfl) rfl) ?_
      refine LinL.step (s := (.val (v9))) [(15, none), (65, some 0)] rfl (by kernel_rfl) (op_yes (reads := [(15, none)]) 2 65 0 false rfl rfl rfl (op_out 15 (v9) rfl (.inl rfl) rfl)) ?_
      refine LinL.step (s := (.val (.int .i64 (bs.length : Nat)))) [(66, some 0), (65, some 1)] rfl (by kernel_rfl) (op_yes (reads := [(66, some 0)]) 2 65 1 false rfl rfl rfl (op_runs rfl fun σ w' hx hg => ⟨_, runs_lenb (ρ := σ.eval) (w := w') (.tmp 66) rfl hg.1 (b9.ext hx), rfl⟩)) ?_
      refine LinL.step (s := (.val (v))) [(0, none), (65, some 2)] rfl (by kernel_rfl) (op_yes (reads := [(0, none)]) 2 65 2 false rfl rfl rfl (op_out 0 (v) rfl (.inl rfl) rfl)) ?_
      refine LinL.step (s := (.val (.int .i64 (l.length : Nat)))) [(68, some 0), (65, some 3)] rfl (by kernel_rfl) (op_yes (reads := [(68, some 0)]) 2 65 3 false rfl rfl rfl (op_runs rfl fun σ w' hx hg => ⟨_, runs_lenb (ρ := σ.eval) (w := w') (.tmp 68) rfl hg.1 (hv0.ext hx), rfl⟩)) ?_
      refine LinL.step (s := (.val (.bool false))) [(67, some 2), (69, some 0), (65, some 4)] rfl (by kernel_rfl) (op_yes (reads := [(67, some 2), (69, some 0)]) 2 65 4 false rfl rfl rfl (op_runs rfl fun σ w' hx hg => ⟨(.bool false), by have h67 : σ.tmps.getD 67 undef = .int .i64 (bs.length : Nat) := hg.1; have h69 : σ.tmps.getD 69 undef = .int .i64 (l.length : Nat) := hg.2.1; unfold Runs execOp; simp [Act.eval, h67, h69, go_sem, t5], rfl⟩)) ?_
      refine LinL.step (s := (.val (.bool false))) [(65, some 5), (70, some 0)] rfl (by kernel_rfl) (op_runs rfl fun σ w' hx hg => ⟨_, runs_pick_f (ρ := σ.eval) (w := w') (.tmp 65) (.const (.bool true)) (.tmp 70) rfl hg.1 hg.2.1, rfl⟩) ?_
      refine LinL.step (s := (.val (.bool false))) [(71, some 0)] rfl (by kernel_rfl) (op_copy 71 0 (.val (.bool false)) rfl (.inl rfl) rfl) ?_
      refine LinL.step (s := (.val (v9))) [(15, none), (72, some 0)] rfl (by kernel_rfl) (op_yes (reads := [(15, none)]) 9 72 0 false rfl rfl rfl (op_out 15 (v9) rfl (.inl rfl) rfl)) ?_
      refine LinL.step (s := (.val (.string (strN bs)))) [(73, some 0), (72, some 1)] rfl (by kernel_rfl) (op_yes (reads := [(73, some 0)]) 9 72 1 false rfl rfl rfl (op_runs rfl fun σ w' hx hg => ⟨_, runs_str (ρ := σ.eval) (w := w') (.tmp 73) rfl hg.1 (b9.ext hx), rfl⟩)) ?_
      refine LinL.step (s := (.val (v))) [(0, none), (72, some 2)] rfl (by kernel_rfl) (op_yes (reads := [(0, none)]) 9 72 2 false rfl rfl rfl (op_out 0 (v) rfl (.inl rfl) rfl)) ?_
      refine LinL.step (s := (.val (v9))) [(15, none), (72, some 3)] rfl (by kernel_rfl) (op_yes (reads := [(15, none)]) 9 72 3 false rfl rfl rfl (op_out 15 (v9) rfl (.inl rfl) rfl)) ?_
      refine LinL.step (s := (.val (.int .i64 (bs.length : Nat)))) [(76, some 0), (72, some 4)] rfl (by kernel_rfl) (op_yes (reads := [(76, some 0)]) 9 72 4 false rfl rfl rfl (op_runs rfl fun σ w' hx hg => ⟨_, runs_lenb (ρ := σ.eval) (w := w') (.tmp 76) rfl hg.1 (b9.ext hx), rfl⟩)) ?_
      refine LinL.step (s := (.sl (u8s (l.take bs.length)))) [(75, some 2), (77, some 0), (72, some 5)] rfl (by kernel_rfl) (op_yes (reads := [(75, some 2), (77, some 0)]) 9 72 5 false rfl rfl rfl (op_runs rfl fun σ w' hx hg => rcut (ρ := σ.eval) (w := w') (.tmp 75) rfl hg.1 (hv0.ext hx) 0 bs.length (.inr ⟨rfl, rfl⟩) (.inl ⟨(.tmp 77), rfl, hg.2.1⟩) (by omega) (by omega) (by simp))) ?_
      refine LinL.step (s := (.val (.string (strN (l.take bs.length))))) [(78, some 0), (72, some 6)] rfl (by kernel_rfl) (op_yes (reads := [(78, some 0)]) 9 72 6 false rfl rfl rfl (op_runs rfl fun σ w' hx hg => ⟨_, runs_str (ρ := σ.eval) (w := w') (.tmp 78) rfl rfl hg.1, rfl⟩)) ?_
      refine LinL.step (s := (.val (.bool true))) [(74, some 5), (79, some 0), (72, some 7)] rfl (by kernel_rfl) (op_yes (reads := [(74, some 5), (79, some 0)]) 9 72 7 false rfl rfl rfl (op_runs rfl fun σ w' hx hg => ⟨(.bool true), by have h74 : σ.tmps.getD 74 undef = .string (strN bs) := hg.1; have h79 : σ.tmps.getD 79 undef = .string (strN (l.take bs.length)) := hg.2.1; unfold Runs execOp; simp [Act.eval, h74, h79, go_sem, hst], rfl⟩)) ?_
      refine LinL.step (s := (.val (.bool true))) [(72, some 8), (80, some 0)] rfl (by kernel_rfl) (op_runs rfl fun σ w' hx hg => ⟨_, runs_pick_f (ρ := σ.eval) (w := w') (.tmp 72) (.const (.bool true)) (.tmp 80) rfl hg.1 hg.2.1, rfl⟩) ?_
      intro wN hxN
      simp only [Fin', List.reverse_cons, List.reverse_nil, List.nil_append, List.cons_append, List.drop_zero, List.take_succ_cons, List.take_zero]
      intro q78 hq78
      simp only [Act.put, List.setIfInBounds_toArray, List.set_cons_zero, List.set_cons_succ]
      replace b9 := b9.ext hxN; replace f7 := f7.ext hxN; replace f2 := f2.ext hxN; replace hX := hX.trans hxN; replace hX3 := hX3.trans hxN; clear hxN hv0
      go_wp2_with ((first
        | (refine w_sbuild Try.stRec zero5 rfl rfl rfl (by intro p hp; simp at hp) ?_)
        | (refine w_astore Try.stRec (us := zero5) _ _ rfl rfl rfl rfl rfl f2 rfl rfl zero5_one ?_; intro w8 hm8 f8; have hX8 := hm8.after hX (fun i e => e ▸ hg2))
        | fail) <;> (try simp only [Act.put, List.setIfInBounds_toArray, List.set_cons_zero, List.set_cons_succ]))
      exact bodyPost_ret (ret_three Try.stRec rfl rfl rfl rfl f8 rfl) rfl (No.out _ w8 rfl hX8)
    have hf := hide_ (fst_c5 h1 h2 h3 ⟨hok, List.isPrefixOf_iff_prefix.2 (List.prefix_iff_eq_take.2 (hbs ▸ heq))⟩)
    have hbl := hide_ (show fsz (fst l) = bs.length from by rw [hf.out, hbs]; rfl)
    have hst : strN (l.take bs.length) = strN bs := by rw [← heq]
    clear hbs heq No
    replace h1 := hide_ h1
    replace h2 := hide_ h2
    replace h3 := hide_ h3
    clear hok
    go_enter Try.func36, Try.ntmps36
    go_wp2_with ((first
      | (refine w_alloc Try.stRec rfl rfl ?_; intro g2 w1 hg2 hX f2)
      | (go_at_call 47; refine (refRNums4_yes h2.out (rtL_lt hl) hBlen.out b1).mono ?_; rintro e w3 ⟨v3, v4, rfl, i3, b4, hx3⟩; replace f2 := f2.ext hx3; replace hX := hX.trans hx3; clear hx3 b1)
      | (go_at_call 46; refine (refRText_yes h3.out hs.out hslen.out b4).mono ?_; rintro e w4 ⟨v5, v6, rfl, n5, b6, hx4⟩; replace n5 := n5.mono hX.size; have b5 := n5.1; replace i3 := i3.ext hx4; replace f2 := f2.ext hx4; replace hX := hX.trans hx4; clear hx4 b4 b6)
      | (go_at_call 46; refine (refRText_yes h1.out hl hlen.out (hv.ext hX)).mono ?_; rintro e w2 ⟨v1, v2, rfl, n1, b2, hx2⟩; have b1 := n1.1; replace f2 := f2.ext hx2; replace hX := hX.trans hx2; clear hx2 n1 b2)
      | fail) <;> (try simp only [Act.put, List.setIfInBounds_toArray, List.set_cons_zero, List.set_cons_succ]))
    refine wp_region_phx (by kernel_rfl) ?_; intro wd hxd; replace i3 := i3.ext hxd; replace b5 := b5.ext hxd; have hN5 := hxd; replace f2 := f2.ext hxd; replace hX := hX.trans hxd
    refine Ph.gate 0 15 (by kernel_rfl) ?_
    refine LinL.step (s := (.val (v3))) [(8, none)] rfl (by kernel_rfl) (op_out 8 (v3) rfl (.inl rfl) rfl) ?_
    refine LinL.step (s := (Sp.ptr (.int .i64 (k)))) [(44, some 0)] rfl (by kernel_rfl) (op_runs rfl fun σ w' hx hg => rptri (ρ := σ.eval) (w := w') (.tmp 44) (.const (.int .i64 0)) rfl hg.1 (i3.ext hx) 0 rfl (by simp) rfl) ?_
    refine LinL.step (s := (.val (.int .i64 (k : Int)))) [(45, some 0)] rfl (by kernel_rfl) (op_runs rfl fun σ w' hx hg => ⟨_, runs_load (ρ := σ.eval) (w := w') (.tmp 45) rfl Try.underlying3 rfl hg.1, rfl⟩) ?_
    refine LinL.step (s := (.val (v3))) [(8, none)] rfl (by kernel_rfl) (op_out 8 (v3) rfl (.inl rfl) rfl) ?_
    refine LinL.step (s := (Sp.ptr (.int .i64 (i)))) [(47, some 0)] rfl (by kernel_rfl) (op_runs rfl fun σ w' hx hg => rptri (ρ := σ.eval) (w := w') (.tmp 47) (.const (.int .i64 1)) rfl hg.1 (i3.ext hx) 1 rfl (by simp) rfl) ?_
    refine LinL.step (s := (.val (.int .i64 (i : Int)))) [(48, some 0)] rfl (by kernel_rfl) (op_runs rfl fun σ w' hx hg => ⟨_, runs_load (ρ := σ.eval) (w := w') (.tmp 48) rfl Try.underlying3 rfl hg.1, rfl⟩) ?_
    refine LinL.step (s := (.val (v3))) [(8, none)] rfl (by kernel_rfl) (op_out 8 (v3) rfl (.inl rfl) rfl) ?_
    refine LinL.step (s := (Sp.ptr (.int .i64 (x)))) [(50, some 0)] rfl (by kernel_rfl) (op_runs rfl fun σ w' hx hg => rptri (ρ := σ.eval) (w := w') (.tmp 50) (.const (.int .i64 2)) rfl hg.1 (i3.ext hx) 2 rfl (by simp) rfl) ?_
    refine LinL.step (s := (.val (.int .i64 (x : Int)))) [(51, some 0)] rfl (by kernel_rfl) (op_runs rfl fun σ w' hx hg => ⟨_, runs_load (ρ := σ.eval) (w := w') (.tmp 51) rfl Try.underlying3 rfl hg.1, rfl⟩) ?_
    refine LinL.step (s := (.val (v3))) [(8, none)] rfl (by kernel_rfl) (op_out 8 (v3) rfl (.inl rfl) rfl) ?_
    refine LinL.step (s := (Sp.ptr (.int .i64 (y)))) [(53, some 0)] rfl (by kernel_rfl) (op_runs rfl fun σ w' hx hg => rptri (ρ := σ.eval) (w := w') (.tmp 53) (.const (.int .i64 3)) rfl hg.1 (i3.ext hx) 3 rfl (by simp) rfl) ?_
    refine LinL.step (s := (.val (.int .i64 (y : Int)))) [(54, some 0)] rfl (by kernel_rfl) (op_runs rfl fun σ w' hx hg => ⟨_, runs_load (ρ := σ.eval) (w := w') (.tmp 54) rfl Try.underlying3 rfl hg.1, rfl⟩) ?_
    refine LinL.step (s := (.val (v5))) [(11, none)] rfl (by kernel_rfl) (op_out 11 (v5) rfl (.inl rfl) rfl) ?_
    refine LinL.step (s := (.val (.agg #[.int .i64 k, .int .i64 i, .int .i64 x, .int .i64 y, v5]))) [(46, some 10), (49, some 7), (52, some 4), (55, some 1), (56, some 0)] rfl (by kernel_rfl) (op_runs rfl fun σ w' hx hg => ⟨_, runs_sbuild (ρ := σ.eval) (w := w') Try.stRec [.int .i64 k, .int .i64 i, .int .i64 x, .int .i64 y, v5] (ps := #[(0, .tmp 46), (1, .tmp 49), (2, .tmp 52), (3, .tmp 55), (4, .tmp 56)]) rfl (by have h46 : σ.tmps.getD 46 undef = .int .i64 (k : Int) := hg.1; have h49 : σ.tmps.getD 49 undef = .int .i64 (i : Int) := hg.2.1; have h52 : σ.tmps.getD 52 undef = .int .i64 (x : Int) := hg.2.2.1; have h55 : σ.tmps.getD 55 undef = .int .i64 (y : Int) := hg.2.2.2.1; have h56 : σ.tmps.getD 56 undef = v5 := hg.2.2.2.2.1; simp only [List.map_cons, List.map_nil, Act.eval, h46, h49, h52, h55, h56, List.foldl_cons, List.foldl_nil, List.set_cons_zero, List.set_cons_succ]) (by have h46 : σ.tmps.getD 46 undef = .int .i64 (k : Int) := hg.1; have h49 : σ.tmps.getD 49 undef = .int .i64 (i : Int) := hg.2.1; have h52 : σ.tmps.getD 52 undef = .int .i64 (x : Int) := hg.2.2.1; have h55 : σ.tmps.getD 55 undef = .int .i64 (y : Int) := hg.2.2.2.1; have h56 : σ.tmps.getD 56 undef = v5 := hg.2.2.2.2.1; intro p hp; simp at hp; rcases hp with rfl | rfl | rfl | rfl | rfl; exact ⟨by decide, by show (σ.tmps.getD 46 undef).cells = #[σ.tmps.getD 46 undef]; rw [h46]; exact rfl⟩; exact ⟨by decide, by show (σ.tmps.getD 49 undef).cells = #[σ.tmps.getD 49 undef]; rw [h49]; exact rfl⟩; exact ⟨by decide, by show (σ.tmps.getD 52 undef).cells = #[σ.tmps.getD 52 undef]; rw [h52]; exact rfl⟩; exact ⟨by decide, by show (σ.tmps.getD 55 undef).cells = #[σ.tmps.getD 55 undef]; rw [h55]; exact rfl⟩; exact ⟨by decide, by show (σ.tmps.getD 56 undef).cells = #[σ.tmps.getD 56 undef]; rw [h56]; exact oneCell_cells b5.one'⟩), rfl⟩) ?_
    refine LinL.step (s := (Sp.fs wd.heap.size [.int .i64 0, .int .i64 0, .int .i64 0, .int .i64 0, .slice none 0 0])) [] rfl (by kernel_rfl) (op_alloc Try.stRec (Nat.le_refl _) rfl rfl) ?_
    intro wN hxN
    simp only [Fin', Sp.ptr, Sp.fs, List.reverse_cons, List.reverse_nil, List.nil_append, List.cons_append, List.drop_zero, List.take_succ_cons, List.take_zero]
    intro q45 hq45 q48 hq48 q51 hq51 q54 hq54 q14 hq14
    simp only [Act.put, List.setIfInBounds_toArray, List.set_cons_zero, List.set_cons_succ]
    obtain ⟨g7, rfl, hg7, f7⟩ := hq14
    refine wpOp_of_list rfl ?_
    refine w_astore Try.stRec (us := [.int .i64 k, .int .i64 i, .int .i64 x, .int .i64 y, v5]) _ _ rfl rfl rfl rfl rfl f7 rfl rfl (rec5_one b5.one') ?_; intro w7 hm7 f7'; replace f7 := f7'; clear f7'
    have hx7 : Ext wd w7 := hm7.after hxN (fun j e => e ▸ hg7)
    replace f2 := (f2.ext hxN).mod hm7 (fun e => by have := f2.lt; omega)
    have hX3 := hx7
    replace hX := hX.trans hx7
    show Ph Try.prog _ _ 16 _ _
    refine Ph.rest 16 0 (by kernel_rfl) ?_
    intro wN2 hxN2
    simp only [Fin', List.reverse_nil, List.drop_zero, List.drop_succ_cons, List.take_zero]
    replace f7 := f7.ext hxN2; replace f2 := f2.ext hxN2; replace hX := hX.trans hxN2; replace hX3 := hX3.trans hxN2
    clear hxN2 hm7 hx7 hg7 hxN
    go_wp2_with ((first
      | (refine w_aload Try.stRec _ rfl rfl rfl f7 rfl ?_)
      | (go_at_call 12; refine (refBytes_any (RecR.made (r := ⟨k, i, x, y, rtL s⟩) b5 hraw.out hX3)).mono ?_; rintro e w9 ⟨v9, rfl, o9, hx9⟩; rw [E1.out]; have b9 := o9.byt; rw [E2.out] at b9; replace f7 := f7.ext hx9; replace f2 := f2.ext hx9; replace hX := hX.trans hx9; replace hX3 := hX3.trans hx9; clear hx9 o9)
      | fail) <;> (try simp only [Act.put, List.setIfInBounds_toArray, List.set_cons_zero, List.set_cons_succ]))
    refine wp_region_phx (by kernel_rfl) ?_; intro wd hxd; replace b9 := b9.ext hxd; replace f7 := f7.ext hxd; replace f2 := f2.ext hxd; replace hX := hX.trans hxd; replace hX3 := hX3.trans hxd; have hv0 := hv.ext hX
    refine Ph.rest 0 19 (by kernel_rfl) ?_
    refine LinL.step (s := (.val (.int .i64 0))) [(16, none)] rfl (by kernel_rfl) (op_out 16 (.int .i64 0) rfl (.inl rfl) rfl) ?_
    refine LinL.step (s := (.val (.bool false))) [(63, some 0)] rfl (by kernel_rfl) (op_runs rfl fun σ w' hx hg => ⟨(.bool false), by have h63 : σ.tmps.getD 63 undef = .int .i64 0 := hg.1; unfold Runs execOp; simp [Act.eval, h63, go_sem], rfl⟩) ?_
    refine LinL.step (s := (.val (.bool false))) [(64, some 0)] rfl (by kernel_rfl) (op_copy 64 0 (.val (.bool false)) rfl (.inl rfl) rfl) ?_
    refine LinL.step (s := (.val (v9))) [(15, none), (65, some 0)] rfl (by kernel_rfl) (op_yes (reads := [(15, none)]) 2 65 0 false rfl rfl rfl (op_out 15 (v9) rfl (.inl rfl) rfl)) ?_
    refine LinL.step (s := (.val (.int .i64 (bs.length : Nat)))) [(66, some 0), (65, some 1)] rfl (by kernel_rfl) (op_yes (reads := [(66, some 0)]) 2 65 1 false rfl rfl rfl (op_runs rfl fun σ w' hx hg => ⟨_, runs_lenb (ρ := σ.eval) (w := w') (.tmp 66) rfl hg.1 (b9.ext hx), rfl⟩)) ?_
    refine LinL.step (s := (.val (v))) [(0, none), (65, some 2)] rfl (by kernel_rfl) (op_yes (reads := [(0, none)]) 2 65 2 false rfl rfl rfl (op_out 0 (v) rfl (.inl rfl) rfl)) ?_
    refine LinL.step (s := (.val (.int .i64 (l.length : Nat)))) [(68, some 0), (65, some 3)] rfl (by kernel_rfl) (op_yes (reads := [(68, some 0)]) 2 65 3 false rfl rfl rfl (op_runs rfl fun σ w' hx hg => ⟨_, runs_lenb (ρ := σ.eval) (w := w') (.tmp 68) rfl hg.1 (hv0.ext hx), rfl⟩)) ?_
    refine LinL.step (s := (.val (.bool false))) [(67, some 2), (69, some 0), (65, some 4)] rfl (by kernel_rfl) (op_yes (reads := [(67, some 2), (69, some 0)]) 2 65 4 false rfl rfl rfl (op_runs rfl fun σ w' hx hg => ⟨(.bool false), by have h67 : σ.tmps.getD 67 undef = .int .i64 (bs.length : Nat) := hg.1; have h69 : σ.tmps.getD 69 undef = .int .i64 (l.length : Nat) := hg.2.1; unfold Runs execOp; simp [Act.eval, h67, h69, go_sem, t5], rfl⟩)) ?_
    refine LinL.step (s := (.val (.bool false))) [(65, some 5), (70, some 0)] rfl (by kernel_rfl) (op_runs rfl fun σ w' hx hg => ⟨_, runs_pick_f (ρ := σ.eval) (w := w') (.tmp 65) (.const (.bool true)) (.tmp 70) rfl hg.1 hg.2.1, rfl⟩) ?_
    refine LinL.step (s := (.val (.bool false))) [(71, some 0)] rfl (by kernel_rfl) (op_copy 71 0 (.val (.bool false)) rfl (.inl rfl) rfl) ?_
    refine LinL.step (s := (.val (v9))) [(15, none), (72, some 0)] rfl (by kernel_rfl) (op_yes (reads := [(15, none)]) 9 72 0 false rfl rfl rfl (op_out 15 (v9) rfl (.inl rfl) rfl)) ?_
    refine LinL.step (s := (.val (.string (strN bs)))) [(73, some 0), (72, some 1)] rfl (by kernel_rfl) (op_yes (reads := [(73, some 0)]) 9 72 1 false rfl rfl rfl (op_runs rfl fun σ w' hx hg => ⟨_, runs_str (ρ := σ.eval) (w := w') (.tmp 73) rfl hg.1 (b9.ext hx), rfl⟩)) ?_
    refine LinL.step (s := (.val (v))) [(0, none), (72, some 2)] rfl (by kernel_rfl) (op_yes (reads := [(0, none)]) 9 72 2 false rfl rfl rfl (op_out 0 (v) rfl (.inl rfl) rfl)) ?_
    refine LinL.step (s := (.val (v9))) [(15, none), (72, some 3)] rfl (by kernel_rfl) (op_yes (reads := [(15, none)]) 9 72 3 false rfl rfl rfl (op_out 15 (v9) rfl (.inl rfl) rfl)) ?_
    refine LinL.step (s := (.val (.int .i64 (bs.length : Nat)))) [(76, some 0), (72, some 4)] rfl (by kernel_rfl) (op_yes (reads := [(76, some 0)]) 9 72 4 false rfl rfl rfl (op_runs rfl fun σ w' hx hg => ⟨_, runs_lenb (ρ := σ.eval) (w := w') (.tmp 76) rfl hg.1 (b9.ext hx), rfl⟩)) ?_
    refine LinL.step (s := (.sl (u8s (l.take bs.length)))) [(75, some 2), (77, some 0), (72, some 5)] rfl (by kernel_rfl) (op_yes (reads := [(75, some 2), (77, some 0)]) 9 72 5 false rfl rfl rfl (op_runs rfl fun σ w' hx hg => rcut (ρ := σ.eval) (w := w') (.tmp 75) rfl hg.1 (hv0.ext hx) 0 bs.length (.inr ⟨rfl, rfl⟩) (.inl ⟨(.tmp 77), rfl, hg.2.1⟩) (by omega) (by omega) (by simp))) ?_
    refine LinL.step (s := (.val (.string (strN (l.take bs.length))))) [(78, some 0), (72, some 6)] rfl (by kernel_rfl) (op_yes (reads := [(78, some 0)]) 9 72 6 false rfl rfl rfl (op_runs rfl fun σ w' hx hg => ⟨_, runs_str (ρ := σ.eval) (w := w') (.tmp 78) rfl rfl hg.1, rfl⟩)) ?_
    refine LinL.step (s := (.val (.bool false))) [(74, some 5), (79, some 0), (72, some 7)] rfl (by kernel_rfl) (op_yes (reads := [(74, some 5), (79, some 0)]) 9 72 7 false rfl rfl rfl (op_runs rfl fun σ w' hx hg => ⟨(.bool false), by have h74 : σ.tmps.getD 74 undef = .string (strN bs) := hg.1; have h79 : σ.tmps.getD 79 undef = .string (strN (l.take bs.length)) := hg.2.1; unfold Runs execOp; simp [Act.eval, h74, h79, go_sem, hst], rfl⟩)) ?_
    refine LinL.step (s := (.val (.bool false))) [(72, some 8), (80, some 0)] rfl (by kernel_rfl) (op_runs rfl fun σ w' hx hg => ⟨_, runs_pick_f (ρ := σ.eval) (w := w') (.tmp 72) (.const (.bool true)) (.tmp 80) rfl hg.1 hg.2.1, rfl⟩) ?_
    intro wN hxN
    simp only [Fin', List.reverse_cons, List.reverse_nil, List.nil_append, List.cons_append, List.drop_zero, List.take_succ_cons, List.take_zero]
    intro q78 hq78
    simp only [Act.put, List.setIfInBounds_toArray, List.set_cons_zero, List.set_cons_succ]
    replace b9 := b9.ext hxN; replace f7 := f7.ext hxN; replace f2 := f2.ext hxN; replace hX := hX.trans hxN; replace hX3 := hX3.trans hxN; clear hxN hv0
    go_wp2_with ((first
      | (refine w_aload Try.stRec _ rfl rfl rfl f7 rfl ?_)
      | (refine b_len _ rfl rfl (v := v9) rfl b9 ?_)
      | (refine w_astore Try.stRec (us := [.int .i64 k, .int .i64 i, .int .i64 x, .int .i64 y, v5]) _ _ rfl rfl rfl rfl rfl f2 rfl rfl (rec5_one b5.one') ?_; intro w8 hm8 f8; have hX8 := hm8.after hX (fun i e => e ▸ hg2); have n8 := Nb.modF (n5.ext (hN5.trans hX3)) f2 zero5_nob hm8)
      | fail) <;> (try simp only [Act.put, List.setIfInBounds_toArray, List.set_cons_zero, List.set_cons_succ]))
    exact bodyPost_ret (ret_three Try.stRec rfl rfl rfl rfl f8 rfl) rfl (Keep.intro ⟨_, by rw [hbl.out, hf.out]; rfl, hX8, by rw [hf.out]; exact ⟨⟨_, rfl, n8⟩, hraw.out⟩⟩)
end Go.Proofs.Ytfhecifgpjbeiaa
