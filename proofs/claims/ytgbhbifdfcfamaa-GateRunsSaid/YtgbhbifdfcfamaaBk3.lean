/- The contracts of Read of package block and of the document's. -/
import Derived.Test.YtgbhbifdfcfamaaBKA
import Derived.Test.YtgbhbifdfcfamaaFC
namespace Go.Proofs.Ytgbhbifdfcfamaa
set_option maxRecDepth 100000
open Go.RowKit

/-- What Read tells: the block, its list new. -/
def BRead (w : World) (b : List Nat) (e : Ending) (w' : World) : Prop := ∃ u, e = .returned (.tuple #[.agg #[.int .i64 (bOr (rdBlk b)).slot, .int .i64 (bOr (rdBlk b)).miner, .int .i64 (bOr (rdBlk b)).var, .int .i64 (bOr (rdBlk b)).parent, u], .int .i64 (obE (rdBlk b) : Nat)]) ∧ Ext w w' ∧ OwnT w.heap.size w' u (bOr (rdBlk b)).txs

set_option maxRecDepth 100000 in
set_option maxHeartbeats 3200000 in
theorem BRead_any {w : World} {v : Value} {b : List Nat} (hb : ∀ x ∈ b, x < 256) (hlen : b.length ≤ 140737488355328) (hv : Byt w v b) :
    Calls Try.prog 61 #[v] w fun e w' => BRead w b e w' := by
  refine calls_keep ?_
  have No : rdBlk b = none → Hid (∀ e w', e = .returned (.tuple #[.agg #[.int .i64 0, .int .i64 0, .int .i64 0, .int .i64 0, .slice none 0 0], .int .i64 71]) → Ext w w' → Keep (BRead w b) e w') := fun h => hide_ (fun e w' he hx => Keep.intro ⟨.slice none 0 0, by rw [he, h]; rfl, hx, by rw [h]; exact OwnT.nil _ _⟩)
  cases hr : rns 4 b with
  | none =>
    replace No := No (rdBlk_c1 hr)
    replace hr := hide_ hr
    go_enter Try.func61, Try.ntmps61
    go_wp2_with ((first
      | ((with_reducible refine at_alloc ?_); refine w_alloc Try.stBlk rfl rfl ?_; intro g2 w1 hg2 hX f2)
      | (go_at_call 59; refine (RNums_no (m := 4) (by omega) hr.out hb hlen (hv.ext hX)).mono ?_; rintro e w2 ⟨v1, v2, rfl, hx⟩; replace f2 := f2.ext hx; replace hX := hX.trans hx; clear hx)
      | ((with_reducible refine at_sbuild ?_); refine w_sbuild Try.stBlk [.int .i64 0, .int .i64 0, .int .i64 0, .int .i64 0, .slice none 0 0] rfl rfl rfl (by intro p hp; simp at hp) ?_)
      | ((with_reducible refine at_store ?_); refine w_astore Try.stBlk (us := [.int .i64 0, .int .i64 0, .int .i64 0, .int .i64 0, .slice none 0 0]) _ _ rfl rfl rfl rfl rfl f2 rfl rfl (blk_one rfl) ?_; intro w9 hm f2'; replace f2 := f2'; replace hX := hm.after hX (fun i e => e ▸ hg2); clear hm f2')
      | fail) <;> (try simp only [Act.put, List.setIfInBounds_toArray, List.set_cons_zero, List.set_cons_succ]))
    exact bodyPost_ret (ret_two Try.stBlk rfl rfl rfl f2 rfl) rfl (No.out _ _ rfl hX)
  | some pr =>
    obtain ⟨xs, rest⟩ := pr
    obtain ⟨hbs, hxl, hxi⟩ := rns_was 4 b xs rest hb hr
    obtain ⟨s, m, x, p, rfl⟩ : ∃ s m x p, xs = [s, m, x, p] := by
      match xs, hxl with
      | [s, m, x, p], _ => exact ⟨s, m, x, p, rfl⟩
    have hs := hide_ (show ∀ z ∈ rest, z < 256 from fun z hz => hb z (by rw [hbs]; exact List.mem_append_right _ hz))
    have hslen := hide_ (show rest.length ≤ 140737488355328 from by rw [hbs] at hlen; simp at hlen; omega)
    have hp := hide_ (show I64 p from by have := hxi p (by simp); unfold I64; omega)
    have hr' := hr
    replace hr := hide_ hr
    clear hbs hxl hxi
    cases hrl0 : rdLs rest with
    | none =>
      replace No := No (rdBlk_c2 hr' hrl0)
      have hrl := hide_ hrl0
      clear hr' hrl0 hp
      go_enter Try.func61, Try.ntmps61
      go_wp2_with ((first
        | ((with_reducible refine at_alloc ?_); refine w_alloc Try.stBlk rfl rfl ?_; intro g2 w1 hg2 hX f2)
        | (go_at_call 59; refine (RNums_yes (m := 4) (by omega) hr.out hb hlen (hv.ext hX)).mono ?_; rintro e w2 ⟨v1, v2, rfl, i1, b2, hx⟩; replace f2 := f2.ext hx; replace hX := hX.trans hx; clear hx)
        | (go_at_call 70; refine (TReadList_any hs.out hslen.out b2).mono ?_; rintro e w3 ⟨v3, rfl, hx, o3⟩; rw [hrl.out]; clear o3 b2; replace f2 := f2.ext hx; replace hX := hX.trans hx; clear hx)
        | ((with_reducible refine at_sbuild ?_); refine w_sbuild Try.stBlk [.int .i64 0, .int .i64 0, .int .i64 0, .int .i64 0, .slice none 0 0] rfl rfl rfl (by intro p hp; simp at hp) ?_)
        | ((with_reducible refine at_store ?_); refine w_astore Try.stBlk (us := [.int .i64 0, .int .i64 0, .int .i64 0, .int .i64 0, .slice none 0 0]) _ _ rfl rfl rfl rfl rfl f2 rfl rfl (blk_one rfl) ?_; intro w9 hm f2'; replace f2 := f2'; replace hX := hm.after hX (fun i e => e ▸ hg2); clear hm f2')
        | fail) <;> (try simp only [Act.put, List.setIfInBounds_toArray, List.set_cons_zero, List.set_cons_succ]))
      exact bodyPost_ret (ret_two Try.stBlk rfl rfl rfl f2 rfl) rfl (No.out _ _ rfl hX)
    | some l =>
      have hrl := hide_ hrl0
      by_cases hok : (⟨s, m, x, p, l⟩ : BlkD).Right
      · have hfin := hide_ (rdBlk_c4 hr' hrl0 hok)
        have hdec := hide_ (decide_eq_true hok)
        clear hok hr' hrl0 No
        go_enter Try.func61, Try.ntmps61
        go_wp2_with ((first
          | ((with_reducible refine at_alloc ?_); refine w_alloc Try.stBlk rfl rfl ?_; intro g2 w1 hg2 hX f2)
          | (go_at_call 59; refine (RNums_yes (m := 4) (by omega) hr.out hb hlen (hv.ext hX)).mono ?_; rintro e w2 ⟨v1, v2, rfl, i1, b2, hx⟩; replace f2 := f2.ext hx; replace hX := hX.trans hx; clear hx)
          | (go_at_call 70; refine (TReadList_any hs.out hslen.out b2).mono ?_; rintro e w3 ⟨v3, rfl, hx, o3⟩; rw [hrl.out] at o3 ⊢; replace o3 : OwnT _ w3 v3 l := o3; have n32 : ∀ k, v3.ownBlock = some k → ¬ k = g2 := (fun k hk e => by have := o3.new k hk; have := f2.lt; omega); replace o3 := o3.mono hX.size; replace i1 := i1.ext hx; clear b2; replace f2 := f2.ext hx; replace hX := hX.trans hx; clear hx)
          | fail) <;> (try simp only [Act.put, List.setIfInBounds_toArray, List.set_cons_zero, List.set_cons_succ]))
        refine wp_region_phx (by kernel_rfl) ?_; intro wd hxd; replace i1 := i1.ext hxd; replace o3 := o3.ext hxd; replace f2 := f2.ext hxd; replace hX := hX.trans hxd
        refine Ph.gate 0 15 (by kernel_rfl) ?_
        refine LinL.step (s := (.val (v1))) [(4, none)] rfl (by kernel_rfl) (op_out 4 (v1) rfl (.inl rfl) rfl) ?_
        refine LinL.step (s := (Sp.ptr (.int .i64 (s)))) [(26, some 0)] rfl (by kernel_rfl) (op_runs rfl fun σ w' hx hg => rptri (ρ := σ.eval) (w := w') (.tmp 26) (.const (.int .i64 0)) rfl hg.1 (i1.ext hx) 0 rfl (by simp) rfl) ?_
        refine LinL.step (s := (.val (.int .i64 (s : Int)))) [(27, some 0)] rfl (by kernel_rfl) (op_runs rfl fun σ w' hx hg => ⟨_, runs_load (ρ := σ.eval) (w := w') (.tmp 27) rfl Try.underlying3 rfl hg.1, rfl⟩) ?_
        refine LinL.step (s := (.val (v1))) [(4, none)] rfl (by kernel_rfl) (op_out 4 (v1) rfl (.inl rfl) rfl) ?_
        refine LinL.step (s := (Sp.ptr (.int .i64 (m)))) [(29, some 0)] rfl (by kernel_rfl) (op_runs rfl fun σ w' hx hg => rptri (ρ := σ.eval) (w := w') (.tmp 29) (.const (.int .i64 1)) rfl hg.1 (i1.ext hx) 1 rfl (by simp) rfl) ?_
        refine LinL.step (s := (.val (.int .i64 (m : Int)))) [(30, some 0)] rfl (by kernel_rfl) (op_runs rfl fun σ w' hx hg => ⟨_, runs_load (ρ := σ.eval) (w := w') (.tmp 30) rfl Try.underlying3 rfl hg.1, rfl⟩) ?_
        refine LinL.step (s := (.val (v1))) [(4, none)] rfl (by kernel_rfl) (op_out 4 (v1) rfl (.inl rfl) rfl) ?_
        refine LinL.step (s := (Sp.ptr (.int .i64 (x)))) [(32, some 0)] rfl (by kernel_rfl) (op_runs rfl fun σ w' hx hg => rptri (ρ := σ.eval) (w := w') (.tmp 32) (.const (.int .i64 2)) rfl hg.1 (i1.ext hx) 2 rfl (by simp) rfl) ?_
        refine LinL.step (s := (.val (.int .i64 (x : Int)))) [(33, some 0)] rfl (by kernel_rfl) (op_runs rfl fun σ w' hx hg => ⟨_, runs_load (ρ := σ.eval) (w := w') (.tmp 33) rfl Try.underlying3 rfl hg.1, rfl⟩) ?_
        refine LinL.step (s := (.val (v1))) [(4, none)] rfl (by kernel_rfl) (op_out 4 (v1) rfl (.inl rfl) rfl) ?_
        refine LinL.step (s := (Sp.ptr (.int .i64 (p)))) [(35, some 0)] rfl (by kernel_rfl) (op_runs rfl fun σ w' hx hg => rptri (ρ := σ.eval) (w := w') (.tmp 35) (.const (.int .i64 3)) rfl hg.1 (i1.ext hx) 3 rfl (by simp) rfl) ?_
        refine LinL.step (s := (.val (.int .i64 (p : Int)))) [(36, some 0)] rfl (by kernel_rfl) (op_runs rfl fun σ w' hx hg => ⟨_, runs_load (ρ := σ.eval) (w := w') (.tmp 36) rfl Try.underlying3 rfl hg.1, rfl⟩) ?_
        refine LinL.step (s := (.val (v3))) [(7, none)] rfl (by kernel_rfl) (op_out 7 (v3) rfl (.inl rfl) rfl) ?_
        refine LinL.step (s := (.val (.agg #[.int .i64 s, .int .i64 m, .int .i64 x, .int .i64 p, v3]))) [(28, some 10), (31, some 7), (34, some 4), (37, some 1), (38, some 0)] rfl (by kernel_rfl) (op_runs rfl fun σ w' hx hg => ⟨_, runs_sbuild (ρ := σ.eval) (w := w') Try.stBlk [.int .i64 s, .int .i64 m, .int .i64 x, .int .i64 p, v3] (ps := #[(0, .tmp 28), (1, .tmp 31), (2, .tmp 34), (3, .tmp 37), (4, .tmp 38)]) rfl (by have h28 : σ.tmps.getD 28 undef = .int .i64 (s : Int) := hg.1; have h31 : σ.tmps.getD 31 undef = .int .i64 (m : Int) := hg.2.1; have h34 : σ.tmps.getD 34 undef = .int .i64 (x : Int) := hg.2.2.1; have h37 : σ.tmps.getD 37 undef = .int .i64 (p : Int) := hg.2.2.2.1; have h38 : σ.tmps.getD 38 undef = v3 := hg.2.2.2.2.1; simp only [List.map_cons, List.map_nil, Act.eval, h28, h31, h34, h37, h38, List.foldl_cons, List.foldl_nil, List.set_cons_zero, List.set_cons_succ]) (by have h28 : σ.tmps.getD 28 undef = .int .i64 (s : Int) := hg.1; have h31 : σ.tmps.getD 31 undef = .int .i64 (m : Int) := hg.2.1; have h34 : σ.tmps.getD 34 undef = .int .i64 (x : Int) := hg.2.2.1; have h37 : σ.tmps.getD 37 undef = .int .i64 (p : Int) := hg.2.2.2.1; have h38 : σ.tmps.getD 38 undef = v3 := hg.2.2.2.2.1; intro p hp; simp at hp; rcases hp with rfl | rfl | rfl | rfl | rfl; exact ⟨by decide, by show (σ.tmps.getD 28 undef).cells = #[σ.tmps.getD 28 undef]; rw [h28]; exact rfl⟩; exact ⟨by decide, by show (σ.tmps.getD 31 undef).cells = #[σ.tmps.getD 31 undef]; rw [h31]; exact rfl⟩; exact ⟨by decide, by show (σ.tmps.getD 34 undef).cells = #[σ.tmps.getD 34 undef]; rw [h34]; exact rfl⟩; exact ⟨by decide, by show (σ.tmps.getD 37 undef).cells = #[σ.tmps.getD 37 undef]; rw [h37]; exact rfl⟩; exact ⟨by decide, by show (σ.tmps.getD 38 undef).cells = #[σ.tmps.getD 38 undef]; rw [h38]; exact oneCell_cells o3.recs.one'⟩), rfl⟩) ?_
        refine LinL.step (s := (Sp.fs wd.heap.size [.int .i64 0, .int .i64 0, .int .i64 0, .int .i64 0, .slice none 0 0])) [] rfl (by kernel_rfl) (op_alloc Try.stBlk (Nat.le_refl _) rfl rfl) ?_
        intro wN hxN
        simp only [Fin', Sp.ptr, Sp.fs, List.reverse_cons, List.reverse_nil, List.nil_append, List.cons_append, List.drop_zero, List.take_succ_cons, List.take_zero]
        intro q27 hq27 q30 hq30 q33 hq33 q36 hq36 q8 hq8
        simp only [Act.put, List.setIfInBounds_toArray, List.set_cons_zero, List.set_cons_succ]
        obtain ⟨g8, rfl, hg8, f8⟩ := hq8
        refine wpOp_of_list rfl ?_
        refine w_astore Try.stBlk (us := [.int .i64 s, .int .i64 m, .int .i64 x, .int .i64 p, v3]) _ _ rfl rfl rfl rfl rfl f8 rfl rfl (blk_one o3.recs.one') ?_; intro w8 hm8 f8'; replace f8 := f8'; clear f8'
        have hx8 : Ext wd w8 := hm8.after hxN (fun j e => e ▸ hg8)
        replace f2 := (f2.ext hxN).mod hm8 (fun e => by have := f2.lt; omega)
        replace o3 := o3.ext hx8; replace hX := hX.trans hx8
        show Ph Try.prog _ _ 16 _ _
        refine Ph.rest 16 0 (by kernel_rfl) ?_
        intro wN2 hxN2
        simp only [Fin', List.reverse_nil, List.drop_zero, List.drop_succ_cons, List.take_zero]
        replace f8 := f8.ext hxN2; replace f2 := f2.ext hxN2; replace o3 := o3.ext hxN2; replace hX := hX.trans hxN2
        clear hxN2 hm8 hx8 hg8 hxN hxd i1
        go_wp2_with ((first
          | (go_at_call 64; refine (BRight_any (b := ⟨s, m, x, p, l⟩) o3.recs hp.out).mono ?_; rintro e w2 ⟨rfl, hx⟩; rw [hdec.out]; replace f8 := f8.ext hx; replace o3 := o3.ext hx; replace f2 := f2.ext hx; replace hX := hX.trans hx; clear hx)
          | ((with_reducible refine at_store ?_); refine w_astore Try.stBlk (us := [.int .i64 s, .int .i64 m, .int .i64 x, .int .i64 p, v3]) _ _ rfl rfl rfl rfl rfl f2 rfl rfl (blk_one o3.recs.one') ?_; intro w9 hm f2'; replace f2 := f2'; replace o3 := o3.mod hm (fun k hk e => n32 k hk e); replace hX := hm.after hX (fun i e => e ▸ hg2); clear hm f2')
          | ((with_reducible refine at_load ?_); (try refine w_yes _ _ _ rfl rfl rfl ?_); refine w_aload Try.stBlk _ rfl rfl rfl f8 rfl ?_)
          | fail) <;> (try simp only [Act.put, List.setIfInBounds_toArray, List.set_cons_zero, List.set_cons_succ]))
        exact bodyPost_ret (ret_two Try.stBlk rfl rfl rfl f2 rfl) rfl (Keep.intro ⟨v3, by rw [hfin.out]; rfl, hX, by rw [hfin.out]; exact o3⟩)
      · replace No := No (rdBlk_c3 hr' hrl0 hok)
        have hdec := hide_ (decide_eq_false hok)
        clear hok hr' hrl0
        go_enter Try.func61, Try.ntmps61
        go_wp2_with ((first
          | ((with_reducible refine at_alloc ?_); refine w_alloc Try.stBlk rfl rfl ?_; intro g2 w1 hg2 hX f2)
          | (go_at_call 59; refine (RNums_yes (m := 4) (by omega) hr.out hb hlen (hv.ext hX)).mono ?_; rintro e w2 ⟨v1, v2, rfl, i1, b2, hx⟩; replace f2 := f2.ext hx; replace hX := hX.trans hx; clear hx)
          | (go_at_call 70; refine (TReadList_any hs.out hslen.out b2).mono ?_; rintro e w3 ⟨v3, rfl, hx, o3⟩; rw [hrl.out] at o3 ⊢; replace o3 : OwnT _ w3 v3 l := o3; have n32 : ∀ k, v3.ownBlock = some k → ¬ k = g2 := (fun k hk e => by have := o3.new k hk; have := f2.lt; omega); replace o3 := o3.mono hX.size; replace i1 := i1.ext hx; clear b2; replace f2 := f2.ext hx; replace hX := hX.trans hx; clear hx)
          | fail) <;> (try simp only [Act.put, List.setIfInBounds_toArray, List.set_cons_zero, List.set_cons_succ]))
        refine wp_region_phx (by kernel_rfl) ?_; intro wd hxd; replace i1 := i1.ext hxd; replace o3 := o3.ext hxd; replace f2 := f2.ext hxd; replace hX := hX.trans hxd
        refine Ph.gate 0 15 (by kernel_rfl) ?_
        refine LinL.step (s := (.val (v1))) [(4, none)] rfl (by kernel_rfl) (op_out 4 (v1) rfl (.inl rfl) rfl) ?_
        refine LinL.step (s := (Sp.ptr (.int .i64 (s)))) [(26, some 0)] rfl (by kernel_rfl) (op_runs rfl fun σ w' hx hg => rptri (ρ := σ.eval) (w := w') (.tmp 26) (.const (.int .i64 0)) rfl hg.1 (i1.ext hx) 0 rfl (by simp) rfl) ?_
        refine LinL.step (s := (.val (.int .i64 (s : Int)))) [(27, some 0)] rfl (by kernel_rfl) (op_runs rfl fun σ w' hx hg => ⟨_, runs_load (ρ := σ.eval) (w := w') (.tmp 27) rfl Try.underlying3 rfl hg.1, rfl⟩) ?_
        refine LinL.step (s := (.val (v1))) [(4, none)] rfl (by kernel_rfl) (op_out 4 (v1) rfl (.inl rfl) rfl) ?_
        refine LinL.step (s := (Sp.ptr (.int .i64 (m)))) [(29, some 0)] rfl (by kernel_rfl) (op_runs rfl fun σ w' hx hg => rptri (ρ := σ.eval) (w := w') (.tmp 29) (.const (.int .i64 1)) rfl hg.1 (i1.ext hx) 1 rfl (by simp) rfl) ?_
        refine LinL.step (s := (.val (.int .i64 (m : Int)))) [(30, some 0)] rfl (by kernel_rfl) (op_runs rfl fun σ w' hx hg => ⟨_, runs_load (ρ := σ.eval) (w := w') (.tmp 30) rfl Try.underlying3 rfl hg.1, rfl⟩) ?_
        refine LinL.step (s := (.val (v1))) [(4, none)] rfl (by kernel_rfl) (op_out 4 (v1) rfl (.inl rfl) rfl) ?_
        refine LinL.step (s := (Sp.ptr (.int .i64 (x)))) [(32, some 0)] rfl (by kernel_rfl) (op_runs rfl fun σ w' hx hg => rptri (ρ := σ.eval) (w := w') (.tmp 32) (.const (.int .i64 2)) rfl hg.1 (i1.ext hx) 2 rfl (by simp) rfl) ?_
        refine LinL.step (s := (.val (.int .i64 (x : Int)))) [(33, some 0)] rfl (by kernel_rfl) (op_runs rfl fun σ w' hx hg => ⟨_, runs_load (ρ := σ.eval) (w := w') (.tmp 33) rfl Try.underlying3 rfl hg.1, rfl⟩) ?_
        refine LinL.step (s := (.val (v1))) [(4, none)] rfl (by kernel_rfl) (op_out 4 (v1) rfl (.inl rfl) rfl) ?_
        refine LinL.step (s := (Sp.ptr (.int .i64 (p)))) [(35, some 0)] rfl (by kernel_rfl) (op_runs rfl fun σ w' hx hg => rptri (ρ := σ.eval) (w := w') (.tmp 35) (.const (.int .i64 3)) rfl hg.1 (i1.ext hx) 3 rfl (by simp) rfl) ?_
        refine LinL.step (s := (.val (.int .i64 (p : Int)))) [(36, some 0)] rfl (by kernel_rfl) (op_runs rfl fun σ w' hx hg => ⟨_, runs_load (ρ := σ.eval) (w := w') (.tmp 36) rfl Try.underlying3 rfl hg.1, rfl⟩) ?_
        refine LinL.step (s := (.val (v3))) [(7, none)] rfl (by kernel_rfl) (op_out 7 (v3) rfl (.inl rfl) rfl) ?_
        refine LinL.step (s := (.val (.agg #[.int .i64 s, .int .i64 m, .int .i64 x, .int .i64 p, v3]))) [(28, some 10), (31, some 7), (34, some 4), (37, some 1), (38, some 0)] rfl (by kernel_rfl) (op_runs rfl fun σ w' hx hg => ⟨_, runs_sbuild (ρ := σ.eval) (w := w') Try.stBlk [.int .i64 s, .int .i64 m, .int .i64 x, .int .i64 p, v3] (ps := #[(0, .tmp 28), (1, .tmp 31), (2, .tmp 34), (3, .tmp 37), (4, .tmp 38)]) rfl (by have h28 : σ.tmps.getD 28 undef = .int .i64 (s : Int) := hg.1; have h31 : σ.tmps.getD 31 undef = .int .i64 (m : Int) := hg.2.1; have h34 : σ.tmps.getD 34 undef = .int .i64 (x : Int) := hg.2.2.1; have h37 : σ.tmps.getD 37 undef = .int .i64 (p : Int) := hg.2.2.2.1; have h38 : σ.tmps.getD 38 undef = v3 := hg.2.2.2.2.1; simp only [List.map_cons, List.map_nil, Act.eval, h28, h31, h34, h37, h38, List.foldl_cons, List.foldl_nil, List.set_cons_zero, List.set_cons_succ]) (by have h28 : σ.tmps.getD 28 undef = .int .i64 (s : Int) := hg.1; have h31 : σ.tmps.getD 31 undef = .int .i64 (m : Int) := hg.2.1; have h34 : σ.tmps.getD 34 undef = .int .i64 (x : Int) := hg.2.2.1; have h37 : σ.tmps.getD 37 undef = .int .i64 (p : Int) := hg.2.2.2.1; have h38 : σ.tmps.getD 38 undef = v3 := hg.2.2.2.2.1; intro p hp; simp at hp; rcases hp with rfl | rfl | rfl | rfl | rfl; exact ⟨by decide, by show (σ.tmps.getD 28 undef).cells = #[σ.tmps.getD 28 undef]; rw [h28]; exact rfl⟩; exact ⟨by decide, by show (σ.tmps.getD 31 undef).cells = #[σ.tmps.getD 31 undef]; rw [h31]; exact rfl⟩; exact ⟨by decide, by show (σ.tmps.getD 34 undef).cells = #[σ.tmps.getD 34 undef]; rw [h34]; exact rfl⟩; exact ⟨by decide, by show (σ.tmps.getD 37 undef).cells = #[σ.tmps.getD 37 undef]; rw [h37]; exact rfl⟩; exact ⟨by decide, by show (σ.tmps.getD 38 undef).cells = #[σ.tmps.getD 38 undef]; rw [h38]; exact oneCell_cells o3.recs.one'⟩), rfl⟩) ?_
        refine LinL.step (s := (Sp.fs wd.heap.size [.int .i64 0, .int .i64 0, .int .i64 0, .int .i64 0, .slice none 0 0])) [] rfl (by kernel_rfl) (op_alloc Try.stBlk (Nat.le_refl _) rfl rfl) ?_
        intro wN hxN
        simp only [Fin', Sp.ptr, Sp.fs, List.reverse_cons, List.reverse_nil, List.nil_append, List.cons_append, List.drop_zero, List.take_succ_cons, List.take_zero]
        intro q27 hq27 q30 hq30 q33 hq33 q36 hq36 q8 hq8
        simp only [Act.put, List.setIfInBounds_toArray, List.set_cons_zero, List.set_cons_succ]
        obtain ⟨g8, rfl, hg8, f8⟩ := hq8
        refine wpOp_of_list rfl ?_
        refine w_astore Try.stBlk (us := [.int .i64 s, .int .i64 m, .int .i64 x, .int .i64 p, v3]) _ _ rfl rfl rfl rfl rfl f8 rfl rfl (blk_one o3.recs.one') ?_; intro w8 hm8 f8'; replace f8 := f8'; clear f8'
        have hx8 : Ext wd w8 := hm8.after hxN (fun j e => e ▸ hg8)
        replace f2 := (f2.ext hxN).mod hm8 (fun e => by have := f2.lt; omega)
        replace o3 := o3.ext hx8; replace hX := hX.trans hx8
        show Ph Try.prog _ _ 16 _ _
        refine Ph.rest 16 0 (by kernel_rfl) ?_
        intro wN2 hxN2
        simp only [Fin', List.reverse_nil, List.drop_zero, List.drop_succ_cons, List.take_zero]
        replace f8 := f8.ext hxN2; replace f2 := f2.ext hxN2; replace o3 := o3.ext hxN2; replace hX := hX.trans hxN2
        clear hxN2 hm8 hx8 hg8 hxN hxd i1
        go_wp2_with ((first
          | (go_at_call 64; refine (BRight_any (b := ⟨s, m, x, p, l⟩) o3.recs hp.out).mono ?_; rintro e w2 ⟨rfl, hx⟩; rw [hdec.out]; replace f8 := f8.ext hx; replace o3 := o3.ext hx; replace f2 := f2.ext hx; replace hX := hX.trans hx; clear hx)
          | ((with_reducible refine at_sbuild ?_); refine w_sbuild Try.stBlk [.int .i64 0, .int .i64 0, .int .i64 0, .int .i64 0, .slice none 0 0] rfl rfl rfl (by intro p hp; simp at hp) ?_)
          | ((with_reducible refine at_store ?_); refine w_astore Try.stBlk (us := [.int .i64 0, .int .i64 0, .int .i64 0, .int .i64 0, .slice none 0 0]) _ _ rfl rfl rfl rfl rfl f2 rfl rfl (blk_one rfl) ?_; intro w9 hm f2'; replace f2 := f2'; replace hX := hm.after hX (fun i e => e ▸ hg2); clear hm f2')
          | ((with_reducible refine at_store ?_); refine w_astore Try.stBlk (us := [.int .i64 s, .int .i64 m, .int .i64 x, .int .i64 p, v3]) _ _ rfl rfl rfl rfl rfl f2 rfl rfl (blk_one o3.recs.one') ?_; intro w9 hm f2'; replace f2 := f2'; replace o3 := o3.mod hm (fun k hk e => n32 k hk e); replace hX := hm.after hX (fun i e => e ▸ hg2); clear hm f2')
          | ((with_reducible refine at_load ?_); (try refine w_yes _ _ _ rfl rfl rfl ?_); refine w_aload Try.stBlk _ rfl rfl rfl f8 rfl ?_)
          | fail) <;> (try simp only [Act.put, List.setIfInBounds_toArray, List.set_cons_zero, List.set_cons_succ]))
        exact bodyPost_ret (ret_two Try.stBlk rfl rfl rfl f2 rfl) rfl (No.out _ _ rfl hX)

set_option maxRecDepth 100000 in
set_option maxHeartbeats 3200000 in
theorem refBRead_any {w : World} {v : Value} {b : List Nat} (hb : ∀ x ∈ b, x < 256) (hlen : b.length ≤ 140737488355328) (hv : Byt w v b) :
    Calls Try.prog 32 #[v] w fun e w' => BRead w b e w' := by
  refine calls_keep ?_
  have No : rdBlk b = none → Hid (∀ e w', e = .returned (.tuple #[.agg #[.int .i64 0, .int .i64 0, .int .i64 0, .int .i64 0, .slice none 0 0], .int .i64 71]) → Ext w w' → Keep (BRead w b) e w') := fun h => hide_ (fun e w' he hx => Keep.intro ⟨.slice none 0 0, by rw [he, h]; rfl, hx, by rw [h]; exact OwnT.nil _ _⟩)
  cases hr : rns 4 b with
  | none =>
    replace No := No (rdBlk_c1 hr)
    replace hr := hide_ hr
    go_enter Try.func32, Try.ntmps32
    go_wp2_with ((first
      | ((with_reducible refine at_alloc ?_); refine w_alloc Try.stBlk rfl rfl ?_; intro g2 w1 hg2 hX f2)
      | (go_at_call 30; refine (refRNums_no (m := 4) (by omega) hr.out hb hlen (hv.ext hX)).mono ?_; rintro e w2 ⟨v1, v2, rfl, hx⟩; replace f2 := f2.ext hx; replace hX := hX.trans hx; clear hx)
      | ((with_reducible refine at_sbuild ?_); refine w_sbuild Try.stBlk [.int .i64 0, .int .i64 0, .int .i64 0, .int .i64 0, .slice none 0 0] rfl rfl rfl (by intro p hp; simp at hp) ?_)
      | ((with_reducible refine at_store ?_); refine w_astore Try.stBlk (us := [.int .i64 0, .int .i64 0, .int .i64 0, .int .i64 0, .slice none 0 0]) _ _ rfl rfl rfl rfl rfl f2 rfl rfl (blk_one rfl) ?_; intro w9 hm f2'; replace f2 := f2'; replace hX := hm.after hX (fun i e => e ▸ hg2); clear hm f2')
      | fail) <;> (try simp only [Act.put, List.setIfInBounds_toArray, List.set_cons_zero, List.set_cons_succ]))
    exact bodyPost_ret (ret_two Try.stBlk rfl rfl rfl f2 rfl) rfl (No.out _ _ rfl hX)
  | some pr =>
    obtain ⟨xs, rest⟩ := pr
    obtain ⟨hbs, hxl, hxi⟩ := rns_was 4 b xs rest hb hr
    obtain ⟨s, m, x, p, rfl⟩ : ∃ s m x p, xs = [s, m, x, p] := by
      match xs, hxl with
      | [s, m, x, p], _ => exact ⟨s, m, x, p, rfl⟩
    have hs := hide_ (show ∀ z ∈ rest, z < 256 from fun z hz => hb z (by rw [hbs]; exact List.mem_append_right _ hz))
    have hslen := hide_ (show rest.length ≤ 140737488355328 from by rw [hbs] at hlen; simp at hlen; omega)
    have hp := hide_ (show I64 p from by have := hxi p (by simp); unfold I64; omega)
    have hr' := hr
    replace hr := hide_ hr
    clear hbs hxl hxi
    cases hrl0 : rdLs rest with
    | none =>
      replace No := No (rdBlk_c2 hr' hrl0)
      have hrl := hide_ hrl0
      clear hr' hrl0 hp
      go_enter Try.func32, Try.ntmps32
      go_wp2_with ((first
        | ((with_reducible refine at_alloc ?_); refine w_alloc Try.stBlk rfl rfl ?_; intro g2 w1 hg2 hX f2)
        | (go_at_call 30; refine (refRNums_yes (m := 4) (by omega) hr.out hb hlen (hv.ext hX)).mono ?_; rintro e w2 ⟨v1, v2, rfl, i1, b2, hx⟩; replace f2 := f2.ext hx; replace hX := hX.trans hx; clear hx)
        | (go_at_call 52; refine (refTReadList_new hs.out hslen.out b2).mono ?_; rintro e w3 ⟨v3, rfl, hx, o3⟩; rw [hrl.out] at o3 ⊢; replace o3 : OwnT _ w3 v3 [] := o3; have n32 : ∀ k, v3.ownBlock = some k → ¬ k = g2 := (fun k hk e => by have := o3.new k hk; have := f2.lt; omega); replace o3 := o3.mono hX.size; replace i1 := i1.ext hx; clear b2; replace f2 := f2.ext hx; replace hX := hX.trans hx; clear hx)
        | fail) <;> (try simp only [Act.put, List.setIfInBounds_toArray, List.set_cons_zero, List.set_cons_succ]))
      refine wp_region_phx (by kernel_rfl) ?_; intro wd hxd; replace i1 := i1.ext hxd; replace o3 := o3.ext hxd; replace f2 := f2.ext hxd; replace hX := hX.trans hxd
      refine Ph.gate 0 15 (by kernel_rfl) ?_
      refine LinL.step (s := (.val (v1))) [(4, none)] rfl (by kernel_rfl) (op_out 4 (v1) rfl (.inl rfl) rfl) ?_
      refine LinL.step (s := (Sp.ptr (.int .i64 (s)))) [(24, some 0)] rfl (by kernel_rfl) (op_runs rfl fun σ w' hx hg => rptri (ρ := σ.eval) (w := w') (.tmp 24) (.const (.int .i64 0)) rfl hg.1 (i1.ext hx) 0 rfl (by simp) rfl) ?_
      refine LinL.step (s := (.val (.int .i64 (s : Int)))) [(25, some 0)] rfl (by kernel_rfl) (op_runs rfl fun σ w' hx hg => ⟨_, runs_load (ρ := σ.eval) (w := w') (.tmp 25) rfl Try.underlying3 rfl hg.1, rfl⟩) ?_
      refine LinL.step (s := (.val (v1))) [(4, none)] rfl (by kernel_rfl) (op_out 4 (v1) rfl (.inl rfl) rfl) ?_
      refine LinL.step (s := (Sp.ptr (.int .i64 (m)))) [(27, some 0)] rfl (by kernel_rfl) (op_runs rfl fun σ w' hx hg => rptri (ρ := σ.eval) (w := w') (.tmp 27) (.const (.int .i64 1)) rfl hg.1 (i1.ext hx) 1 rfl (by simp) rfl) ?_
      refine LinL.step (s := (.val (.int .i64 (m : Int)))) [(28, some 0)] rfl (by kernel_rfl) (op_runs rfl fun σ w' hx hg => ⟨_, runs_load (ρ := σ.eval) (w := w') (.tmp 28) rfl Try.underlying3 rfl hg.1, rfl⟩) ?_
      refine LinL.step (s := (.val (v1))) [(4, none)] rfl (by kernel_rfl) (op_out 4 (v1) rfl (.inl rfl) rfl) ?_
      refine LinL.step (s := (Sp.ptr (.int .i64 (x)))) [(30, some 0)] rfl (by kernel_rfl) (op_runs rfl fun σ w' hx hg => rptri (ρ := σ.eval) (w := w') (.tmp 30) (.const (.int .i64 2)) rfl hg.1 (i1.ext hx) 2 rfl (by simp) rfl) ?_
      refine LinL.step (s := (.val (.int .i64 (x : Int)))) [(31, some 0)] rfl (by kernel_rfl) (op_runs rfl fun σ w' hx hg => ⟨_, runs_load (ρ := σ.eval) (w := w') (.tmp 31) rfl Try.underlying3 rfl hg.1, rfl⟩) ?_
      refine LinL.step (s := (.val (v1))) [(4, none)] rfl (by kernel_rfl) (op_out 4 (v1) rfl (.inl rfl) rfl) ?_
      refine LinL.step (s := (Sp.ptr (.int .i64 (p)))) [(33, some 0)] rfl (by kernel_rfl) (op_runs rfl fun σ w' hx hg => rptri (ρ := σ.eval) (w := w') (.tmp 33) (.const (.int .i64 3)) rfl hg.1 (i1.ext hx) 3 rfl (by simp) rfl) ?_
      refine LinL.step (s := (.val (.int .i64 (p : Int)))) [(34, some 0)] rfl (by kernel_rfl) (op_runs rfl fun σ w' hx hg => ⟨_, runs_load (ρ := σ.eval) (w := w') (.tmp 34) rfl Try.underlying3 rfl hg.1, rfl⟩) ?_
      refine LinL.step (s := (.val (v3))) [(7, none)] rfl (by kernel_rfl) (op_out 7 (v3) rfl (.inl rfl) rfl) ?_
      refine LinL.step (s := (.val (.agg #[.int .i64 s, .int .i64 m, .int .i64 x, .int .i64 p, v3]))) [(26, some 10), (29, some 7), (32, some 4), (35, some 1), (36, some 0)] rfl (by kernel_rfl) (op_runs rfl fun σ w' hx hg => ⟨_, runs_sbuild (ρ := σ.eval) (w := w') Try.stBlk [.int .i64 s, .int .i64 m, .int .i64 x, .int .i64 p, v3] (ps := #[(0, .tmp 26), (1, .tmp 29), (2, .tmp 32), (3, .tmp 35), (4, .tmp 36)]) rfl (by have h26 : σ.tmps.getD 26 undef = .int .i64 (s : Int) := hg.1; have h29 : σ.tmps.getD 29 undef = .int .i64 (m : Int) := hg.2.1; have h32 : σ.tmps.getD 32 undef = .int .i64 (x : Int) := hg.2.2.1; have h35 : σ.tmps.getD 35 undef = .int .i64 (p : Int) := hg.2.2.2.1; have h36 : σ.tmps.getD 36 undef = v3 := hg.2.2.2.2.1; simp only [List.map_cons, List.map_nil, Act.eval, h26, h29, h32, h35, h36, List.foldl_cons, List.foldl_nil, List.set_cons_zero, List.set_cons_succ]) (by have h26 : σ.tmps.getD 26 undef = .int .i64 (s : Int) := hg.1; have h29 : σ.tmps.getD 29 undef = .int .i64 (m : Int) := hg.2.1; have h32 : σ.tmps.getD 32 undef = .int .i64 (x : Int) := hg.2.2.1; have h35 : σ.tmps.getD 35 undef = .int .i64 (p : Int) := hg.2.2.2.1; have h36 : σ.tmps.getD 36 undef = v3 := hg.2.2.2.2.1; intro p hp; simp at hp; rcases hp with rfl | rfl | rfl | rfl | rfl; exact ⟨by decide, by show (σ.tmps.getD 26 undef).cells = #[σ.tmps.getD 26 undef]; rw [h26]; exact rfl⟩; exact ⟨by decide, by show (σ.tmps.getD 29 undef).cells = #[σ.tmps.getD 29 undef]; rw [h29]; exact rfl⟩; exact ⟨by decide, by show (σ.tmps.getD 32 undef).cells = #[σ.tmps.getD 32 undef]; rw [h32]; exact rfl⟩; exact ⟨by decide, by show (σ.tmps.getD 35 undef).cells = #[σ.tmps.getD 35 undef]; rw [h35]; exact rfl⟩; exact ⟨by decide, by show (σ.tmps.getD 36 undef).cells = #[σ.tmps.getD 36 undef]; rw [h36]; exact oneCell_cells o3.recs.one'⟩), rfl⟩) ?_
      refine LinL.step (s := (Sp.fs wd.heap.size [.int .i64 0, .int .i64 0, .int .i64 0, .int .i64 0, .slice none 0 0])) [] rfl (by kernel_rfl) (op_alloc Try.stBlk (Nat.le_refl _) rfl rfl) ?_
      intro wN hxN
      simp only [Fin', Sp.ptr, Sp.fs, List.reverse_cons, List.reverse_nil, List.nil_append, List.cons_append, List.drop_zero, List.take_succ_cons, List.take_zero]
      intro q25 hq25 q28 hq28 q31 hq31 q34 hq34 q9 hq9
      simp only [Act.put, List.setIfInBounds_toArray, List.set_cons_zero, List.set_cons_succ]
      obtain ⟨g8, rfl, hg8, f8⟩ := hq9
      refine wpOp_of_list rfl ?_
      refine w_astore Try.stBlk (us := [.int .i64 s, .int .i64 m, .int .i64 x, .int .i64 p, v3]) _ _ rfl rfl rfl rfl rfl f8 rfl rfl (blk_one o3.recs.one') ?_; intro w8 hm8 f8'; replace f8 := f8'; clear f8'
      have hx8 : Ext wd w8 := hm8.after hxN (fun j e => e ▸ hg8)
      replace f2 := (f2.ext hxN).mod hm8 (fun e => by have := f2.lt; omega)
      replace o3 := o3.ext hx8; replace hX := hX.trans hx8
      show Ph Try.prog _ _ 16 _ _
      refine Ph.rest 16 0 (by kernel_rfl) ?_
      intro wN2 hxN2
      simp only [Fin', List.reverse_nil, List.drop_zero, List.drop_succ_cons, List.take_zero]
      replace f8 := f8.ext hxN2; replace f2 := f2.ext hxN2; replace o3 := o3.ext hxN2; replace hX := hX.trans hxN2
      clear hxN2 hm8 hx8 hg8 hxN hxd i1
      go_wp2_with ((first
        | ((with_reducible refine at_sbuild ?_); refine w_sbuild Try.stBlk [.int .i64 0, .int .i64 0, .int .i64 0, .int .i64 0, .slice none 0 0] rfl rfl rfl (by intro p hp; simp at hp) ?_)
        | ((with_reducible refine at_store ?_); refine w_astore Try.stBlk (us := [.int .i64 0, .int .i64 0, .int .i64 0, .int .i64 0, .slice none 0 0]) _ _ rfl rfl rfl rfl rfl f2 rfl rfl (blk_one rfl) ?_; intro w9 hm f2'; replace f2 := f2'; replace hX := hm.after hX (fun i e => e ▸ hg2); clear hm f2')
        | fail) <;> (try simp only [Act.put, List.setIfInBounds_toArray, List.set_cons_zero, List.set_cons_succ]))
      exact bodyPost_ret (ret_two Try.stBlk rfl rfl rfl f2 rfl) rfl (No.out _ _ rfl hX)
    | some l =>
      have hrl := hide_ hrl0
      by_cases hok : (⟨s, m, x, p, l⟩ : BlkD).Right
      · have hfin := hide_ (rdBlk_c4 hr' hrl0 hok)
        have hdec := hide_ (decide_eq_true hok)
        clear hok hr' hrl0 No
        go_enter Try.func32, Try.ntmps32
        go_wp2_with ((first
          | ((with_reducible refine at_alloc ?_); refine w_alloc Try.stBlk rfl rfl ?_; intro g2 w1 hg2 hX f2)
          | (go_at_call 30; refine (refRNums_yes (m := 4) (by omega) hr.out hb hlen (hv.ext hX)).mono ?_; rintro e w2 ⟨v1, v2, rfl, i1, b2, hx⟩; replace f2 := f2.ext hx; replace hX := hX.trans hx; clear hx)
          | (go_at_call 52; refine (refTReadList_new hs.out hslen.out b2).mono ?_; rintro e w3 ⟨v3, rfl, hx, o3⟩; rw [hrl.out] at o3 ⊢; replace o3 : OwnT _ w3 v3 l := o3; have n32 : ∀ k, v3.ownBlock = some k → ¬ k = g2 := (fun k hk e => by have := o3.new k hk; have := f2.lt; omega); replace o3 := o3.mono hX.size; replace i1 := i1.ext hx; clear b2; replace f2 := f2.ext hx; replace hX := hX.trans hx; clear hx)
          | fail) <;> (try simp only [Act.put, List.setIfInBounds_toArray, List.set_cons_zero, List.set_cons_succ]))
        refine wp_region_phx (by kernel_rfl) ?_; intro wd hxd; replace i1 := i1.ext hxd; replace o3 := o3.ext hxd; replace f2 := f2.ext hxd; replace hX := hX.trans hxd
        refine Ph.gate 0 15 (by kernel_rfl) ?_
        refine LinL.step (s := (.val (v1))) [(4, none)] rfl (by kernel_rfl) (op_out 4 (v1) rfl (.inl rfl) rfl) ?_
        refine LinL.step (s := (Sp.ptr (.int .i64 (s)))) [(24, some 0)] rfl (by kernel_rfl) (op_runs rfl fun σ w' hx hg => rptri (ρ := σ.eval) (w := w') (.tmp 24) (.const (.int .i64 0)) rfl hg.1 (i1.ext hx) 0 rfl (by simp) rfl) ?_
        refine LinL.step (s := (.val (.int .i64 (s : Int)))) [(25, some 0)] rfl (by kernel_rfl) (op_runs rfl fun σ w' hx hg => ⟨_, runs_load (ρ := σ.eval) (w := w') (.tmp 25) rfl Try.underlying3 rfl hg.1, rfl⟩) ?_
        refine LinL.step (s := (.val (v1))) [(4, none)] rfl (by kernel_rfl) (op_out 4 (v1) rfl (.inl rfl) rfl) ?_
        refine LinL.step (s := (Sp.ptr (.int .i64 (m)))) [(27, some 0)] rfl (by kernel_rfl) (op_runs rfl fun σ w' hx hg => rptri (ρ := σ.eval) (w := w') (.tmp 27) (.const (.int .i64 1)) rfl hg.1 (i1.ext hx) 1 rfl (by simp) rfl) ?_
        refine LinL.step (s := (.val (.int .i64 (m : Int)))) [(28, some 0)] rfl (by kernel_rfl) (op_runs rfl fun σ w' hx hg => ⟨_, runs_load (ρ := σ.eval) (w := w') (.tmp 28) rfl Try.underlying3 rfl hg.1, rfl⟩) ?_
        refine LinL.step (s := (.val (v1))) [(4, none)] rfl (by kernel_rfl) (op_out 4 (v1) rfl (.inl rfl) rfl) ?_
        refine LinL.step (s := (Sp.ptr (.int .i64 (x)))) [(30, some 0)] rfl (by kernel_rfl) (op_runs rfl fun σ w' hx hg => rptri (ρ := σ.eval) (w := w') (.tmp 30) (.const (.int .i64 2)) rfl hg.1 (i1.ext hx) 2 rfl (by simp) rfl) ?_
        refine LinL.step (s := (.val (.int .i64 (x : Int)))) [(31, some 0)] rfl (by kernel_rfl) (op_runs rfl fun σ w' hx hg => ⟨_, runs_load (ρ := σ.eval) (w := w') (.tmp 31) rfl Try.underlying3 rfl hg.1, rfl⟩) ?_
        refine LinL.step (s := (.val (v1))) [(4, none)] rfl (by kernel_rfl) (op_out 4 (v1) rfl (.inl rfl) rfl) ?_
        refine LinL.step (s := (Sp.ptr (.int .i64 (p)))) [(33, some 0)] rfl (by kernel_rfl) (op_runs rfl fun σ w' hx hg => rptri (ρ := σ.eval) (w := w') (.tmp 33) (.const (.int .i64 3)) rfl hg.1 (i1.ext hx) 3 rfl (by simp) rfl) ?_
        refine LinL.step (s := (.val (.int .i64 (p : Int)))) [(34, some 0)] rfl (by kernel_rfl) (op_runs rfl fun σ w' hx hg => ⟨_, runs_load (ρ := σ.eval) (w := w') (.tmp 34) rfl Try.underlying3 rfl hg.1, rfl⟩) ?_
        refine LinL.step (s := (.val (v3))) [(7, none)] rfl (by kernel_rfl) (op_out 7 (v3) rfl (.inl rfl) rfl) ?_
        refine LinL.step (s := (.val (.agg #[.int .i64 s, .int .i64 m, .int .i64 x, .int .i64 p, v3]))) [(26, some 10), (29, some 7), (32, some 4), (35, some 1), (36, some 0)] rfl (by kernel_rfl) (op_runs rfl fun σ w' hx hg => ⟨_, runs_sbuild (ρ := σ.eval) (w := w') Try.stBlk [.int .i64 s, .int .i64 m, .int .i64 x, .int .i64 p, v3] (ps := #[(0, .tmp 26), (1, .tmp 29), (2, .tmp 32), (3, .tmp 35), (4, .tmp 36)]) rfl (by have h26 : σ.tmps.getD 26 undef = .int .i64 (s : Int) := hg.1; have h29 : σ.tmps.getD 29 undef = .int .i64 (m : Int) := hg.2.1; have h32 : σ.tmps.getD 32 undef = .int .i64 (x : Int) := hg.2.2.1; have h35 : σ.tmps.getD 35 undef = .int .i64 (p : Int) := hg.2.2.2.1; have h36 : σ.tmps.getD 36 undef = v3 := hg.2.2.2.2.1; simp only [List.map_cons, List.map_nil, Act.eval, h26, h29, h32, h35, h36, List.foldl_cons, List.foldl_nil, List.set_cons_zero, List.set_cons_succ]) (by have h26 : σ.tmps.getD 26 undef = .int .i64 (s : Int) := hg.1; have h29 : σ.tmps.getD 29 undef = .int .i64 (m : Int) := hg.2.1; have h32 : σ.tmps.getD 32 undef = .int .i64 (x : Int) := hg.2.2.1; have h35 : σ.tmps.getD 35 undef = .int .i64 (p : Int) := hg.2.2.2.1; have h36 : σ.tmps.getD 36 undef = v3 := hg.2.2.2.2.1; intro p hp; simp at hp; rcases hp with rfl | rfl | rfl | rfl | rfl; exact ⟨by decide, by show (σ.tmps.getD 26 undef).cells = #[σ.tmps.getD 26 undef]; rw [h26]; exact rfl⟩; exact ⟨by decide, by show (σ.tmps.getD 29 undef).cells = #[σ.tmps.getD 29 undef]; rw [h29]; exact rfl⟩; exact ⟨by decide, by show (σ.tmps.getD 32 undef).cells = #[σ.tmps.getD 32 undef]; rw [h32]; exact rfl⟩; exact ⟨by decide, by show (σ.tmps.getD 35 undef).cells = #[σ.tmps.getD 35 undef]; rw [h35]; exact rfl⟩; exact ⟨by decide, by show (σ.tmps.getD 36 undef).cells = #[σ.tmps.getD 36 undef]; rw [h36]; exact oneCell_cells o3.recs.one'⟩), rfl⟩) ?_
        refine LinL.step (s := (Sp.fs wd.heap.size [.int .i64 0, .int .i64 0, .int .i64 0, .int .i64 0, .slice none 0 0])) [] rfl (by kernel_rfl) (op_alloc Try.stBlk (Nat.le_refl _) rfl rfl) ?_
        intro wN hxN
        simp only [Fin', Sp.ptr, Sp.fs, List.reverse_cons, List.reverse_nil, List.nil_append, List.cons_append, List.drop_zero, List.take_succ_cons, List.take_zero]
        intro q25 hq25 q28 hq28 q31 hq31 q34 hq34 q9 hq9
        simp only [Act.put, List.setIfInBounds_toArray, List.set_cons_zero, List.set_cons_succ]
        obtain ⟨g8, rfl, hg8, f8⟩ := hq9
        refine wpOp_of_list rfl ?_
        refine w_astore Try.stBlk (us := [.int .i64 s, .int .i64 m, .int .i64 x, .int .i64 p, v3]) _ _ rfl rfl rfl rfl rfl f8 rfl rfl (blk_one o3.recs.one') ?_; intro w8 hm8 f8'; replace f8 := f8'; clear f8'
        have hx8 : Ext wd w8 := hm8.after hxN (fun j e => e ▸ hg8)
        replace f2 := (f2.ext hxN).mod hm8 (fun e => by have := f2.lt; omega)
        replace o3 := o3.ext hx8; replace hX := hX.trans hx8
        show Ph Try.prog _ _ 16 _ _
        refine Ph.rest 16 0 (by kernel_rfl) ?_
        intro wN2 hxN2
        simp only [Fin', List.reverse_nil, List.drop_zero, List.drop_succ_cons, List.take_zero]
        replace f8 := f8.ext hxN2; replace f2 := f2.ext hxN2; replace o3 := o3.ext hxN2; replace hX := hX.trans hxN2
        clear hxN2 hm8 hx8 hg8 hxN hxd i1
        go_wp2_with ((first
          | (go_at_call 33; refine (refBRight_any (b := ⟨s, m, x, p, l⟩) o3.recs hp.out).mono ?_; rintro e w2 ⟨rfl, hx⟩; rw [hdec.out]; replace f8 := f8.ext hx; replace o3 := o3.ext hx; replace f2 := f2.ext hx; replace hX := hX.trans hx; clear hx)
          | ((with_reducible refine at_store ?_); refine w_astore Try.stBlk (us := [.int .i64 s, .int .i64 m, .int .i64 x, .int .i64 p, v3]) _ _ rfl rfl rfl rfl rfl f2 rfl rfl (blk_one o3.recs.one') ?_; intro w9 hm f2'; replace f2 := f2'; replace o3 := o3.mod hm (fun k hk e => n32 k hk e); replace hX := hm.after hX (fun i e => e ▸ hg2); clear hm f2')
          | ((with_reducible refine at_load ?_); (try refine w_yes _ _ _ rfl rfl rfl ?_); refine w_aload Try.stBlk _ rfl rfl rfl f8 rfl ?_)
          | fail) <;> (try simp only [Act.put, List.setIfInBounds_toArray, List.set_cons_zero, List.set_cons_succ]))
        exact bodyPost_ret (ret_two Try.stBlk rfl rfl rfl f2 rfl) rfl (Keep.intro ⟨v3, by rw [hfin.out]; rfl, hX, by rw [hfin.out]; exact o3⟩)
      · replace No := No (rdBlk_c3 hr' hrl0 hok)
        have hdec := hide_ (decide_eq_false hok)
        clear hok hr' hrl0
        go_enter Try.func32, Try.ntmps32
        go_wp2_with ((first
          | ((with_reducible refine at_alloc ?_); refine w_alloc Try.stBlk rfl rfl ?_; intro g2 w1 hg2 hX f2)
          | (go_at_call 30; refine (refRNums_yes (m := 4) (by omega) hr.out hb hlen (hv.ext hX)).mono ?_; rintro e w2 ⟨v1, v2, rfl, i1, b2, hx⟩; replace f2 := f2.ext hx; replace hX := hX.trans hx; clear hx)
          | (go_at_call 52; refine (refTReadList_new hs.out hslen.out b2).mono ?_; rintro e w3 ⟨v3, rfl, hx, o3⟩; rw [hrl.out] at o3 ⊢; replace o3 : OwnT _ w3 v3 l := o3; have n32 : ∀ k, v3.ownBlock = some k → ¬ k = g2 := (fun k hk e => by have := o3.new k hk; have := f2.lt; omega); replace o3 := o3.mono hX.size; replace i1 := i1.ext hx; clear b2; replace f2 := f2.ext hx; replace hX := hX.trans hx; clear hx)
          | fail) <;> (try simp only [Act.put, List.setIfInBounds_toArray, List.set_cons_zero, List.set_cons_succ]))
        refine wp_region_phx (by kernel_rfl) ?_; intro wd hxd; replace i1 := i1.ext hxd; replace o3 := o3.ext hxd; replace f2 := f2.ext hxd; replace hX := hX.trans hxd
        refine Ph.gate 0 15 (by kernel_rfl) ?_
        refine LinL.step (s := (.val (v1))) [(4, none)] rfl (by kernel_rfl) (op_out 4 (v1) rfl (.inl rfl) rfl) ?_
        refine LinL.step (s := (Sp.ptr (.int .i64 (s)))) [(24, some 0)] rfl (by kernel_rfl) (op_runs rfl fun σ w' hx hg => rptri (ρ := σ.eval) (w := w') (.tmp 24) (.const (.int .i64 0)) rfl hg.1 (i1.ext hx) 0 rfl (by simp) rfl) ?_
        refine LinL.step (s := (.val (.int .i64 (s : Int)))) [(25, some 0)] rfl (by kernel_rfl) (op_runs rfl fun σ w' hx hg => ⟨_, runs_load (ρ := σ.eval) (w := w') (.tmp 25) rfl Try.underlying3 rfl hg.1, rfl⟩) ?_
        refine LinL.step (s := (.val (v1))) [(4, none)] rfl (by kernel_rfl) (op_out 4 (v1) rfl (.inl rfl) rfl) ?_
        refine LinL.step (s := (Sp.ptr (.int .i64 (m)))) [(27, some 0)] rfl (by kernel_rfl) (op_runs rfl fun σ w' hx hg => rptri (ρ := σ.eval) (w := w') (.tmp 27) (.const (.int .i64 1)) rfl hg.1 (i1.ext hx) 1 rfl (by simp) rfl) ?_
        refine LinL.step (s := (.val (.int .i64 (m : Int)))) [(28, some 0)] rfl (by kernel_rfl) (op_runs rfl fun σ w' hx hg => ⟨_, runs_load (ρ := σ.eval) (w := w') (.tmp 28) rfl Try.underlying3 rfl hg.1, rfl⟩) ?_
        refine LinL.step (s := (.val (v1))) [(4, none)] rfl (by kernel_rfl) (op_out 4 (v1) rfl (.inl rfl) rfl) ?_
        refine LinL.step (s := (Sp.ptr (.int .i64 (x)))) [(30, some 0)] rfl (by kernel_rfl) (op_runs rfl fun σ w' hx hg => rptri (ρ := σ.eval) (w := w') (.tmp 30) (.const (.int .i64 2)) rfl hg.1 (i1.ext hx) 2 rfl (by simp) rfl) ?_
        refine LinL.step (s := (.val (.int .i64 (x : Int)))) [(31, some 0)] rfl (by kernel_rfl) (op_runs rfl fun σ w' hx hg => ⟨_, runs_load (ρ := σ.eval) (w := w') (.tmp 31) rfl Try.underlying3 rfl hg.1, rfl⟩) ?_
        refine LinL.step (s := (.val (v1))) [(4, none)] rfl (by kernel_rfl) (op_out 4 (v1) rfl (.inl rfl) rfl) ?_
        refine LinL.step (s := (Sp.ptr (.int .i64 (p)))) [(33, some 0)] rfl (by kernel_rfl) (op_runs rfl fun σ w' hx hg => rptri (ρ := σ.eval) (w := w') (.tmp 33) (.const (.int .i64 3)) rfl hg.1 (i1.ext hx) 3 rfl (by simp) rfl) ?_
        refine LinL.step (s := (.val (.int .i64 (p : Int)))) [(34, some 0)] rfl (by kernel_rfl) (op_runs rfl fun σ w' hx hg => ⟨_, runs_load (ρ := σ.eval) (w := w') (.tmp 34) rfl Try.underlying3 rfl hg.1, rfl⟩) ?_
        refine LinL.step (s := (.val (v3))) [(7, none)] rfl (by kernel_rfl) (op_out 7 (v3) rfl (.inl rfl) rfl) ?_
        refine LinL.step (s := (.val (.agg #[.int .i64 s, .int .i64 m, .int .i64 x, .int .i64 p, v3]))) [(26, some 10), (29, some 7), (32, some 4), (35, some 1), (36, some 0)] rfl (by kernel_rfl) (op_runs rfl fun σ w' hx hg => ⟨_, runs_sbuild (ρ := σ.eval) (w := w') Try.stBlk [.int .i64 s, .int .i64 m, .int .i64 x, .int .i64 p, v3] (ps := #[(0, .tmp 26), (1, .tmp 29), (2, .tmp 32), (3, .tmp 35), (4, .tmp 36)]) rfl (by have h26 : σ.tmps.getD 26 undef = .int .i64 (s : Int) := hg.1; have h29 : σ.tmps.getD 29 undef = .int .i64 (m : Int) := hg.2.1; have h32 : σ.tmps.getD 32 undef = .int .i64 (x : Int) := hg.2.2.1; have h35 : σ.tmps.getD 35 undef = .int .i64 (p : Int) := hg.2.2.2.1; have h36 : σ.tmps.getD 36 undef = v3 := hg.2.2.2.2.1; simp only [List.map_cons, List.map_nil, Act.eval, h26, h29, h32, h35, h36, List.foldl_cons, List.foldl_nil, List.set_cons_zero, List.set_cons_succ]) (by have h26 : σ.tmps.getD 26 undef = .int .i64 (s : Int) := hg.1; have h29 : σ.tmps.getD 29 undef = .int .i64 (m : Int) := hg.2.1; have h32 : σ.tmps.getD 32 undef = .int .i64 (x : Int) := hg.2.2.1; have h35 : σ.tmps.getD 35 undef = .int .i64 (p : Int) := hg.2.2.2.1; have h36 : σ.tmps.getD 36 undef = v3 := hg.2.2.2.2.1; intro p hp; simp at hp; rcases hp with rfl | rfl | rfl | rfl | rfl; exact ⟨by decide, by show (σ.tmps.getD 26 undef).cells = #[σ.tmps.getD 26 undef]; rw [h26]; exact rfl⟩; exact ⟨by decide, by show (σ.tmps.getD 29 undef).cells = #[σ.tmps.getD 29 undef]; rw [h29]; exact rfl⟩; exact ⟨by decide, by show (σ.tmps.getD 32 undef).cells = #[σ.tmps.getD 32 undef]; rw [h32]; exact rfl⟩; exact ⟨by decide, by show (σ.tmps.getD 35 undef).cells = #[σ.tmps.getD 35 undef]; rw [h35]; exact rfl⟩; exact ⟨by decide, by show (σ.tmps.getD 36 undef).cells = #[σ.tmps.getD 36 undef]; rw [h36]; exact oneCell_cells o3.recs.one'⟩), rfl⟩) ?_
        refine LinL.step (s := (Sp.fs wd.heap.size [.int .i64 0, .int .i64 0, .int .i64 0, .int .i64 0, .slice none 0 0])) [] rfl (by kernel_rfl) (op_alloc Try.stBlk (Nat.le_refl _) rfl rfl) ?_
        intro wN hxN
        simp only [Fin', Sp.ptr, Sp.fs, List.reverse_cons, List.reverse_nil, List.nil_append, List.cons_append, List.drop_zero, List.take_succ_cons, List.take_zero]
        intro q25 hq25 q28 hq28 q31 hq31 q34 hq34 q9 hq9
        simp only [Act.put, List.setIfInBounds_toArray, List.set_cons_zero, List.set_cons_succ]
        obtain ⟨g8, rfl, hg8, f8⟩ := hq9
        refine wpOp_of_list rfl ?_
        refine w_astore Try.stBlk (us := [.int .i64 s, .int .i64 m, .int .i64 x, .int .i64 p, v3]) _ _ rfl rfl rfl rfl rfl f8 rfl rfl (blk_one o3.recs.one') ?_; intro w8 hm8 f8'; replace f8 := f8'; clear f8'
        have hx8 : Ext wd w8 := hm8.after hxN (fun j e => e ▸ hg8)
        replace f2 := (f2.ext hxN).mod hm8 (fun e => by have := f2.lt; omega)
        replace o3 := o3.ext hx8; replace hX := hX.trans hx8
        show Ph Try.prog _ _ 16 _ _
        refine Ph.rest 16 0 (by kernel_rfl) ?_
        intro wN2 hxN2
        simp only [Fin', List.reverse_nil, List.drop_zero, List.drop_succ_cons, List.take_zero]
        replace f8 := f8.ext hxN2; replace f2 := f2.ext hxN2; replace o3 := o3.ext hxN2; replace hX := hX.trans hxN2
        clear hxN2 hm8 hx8 hg8 hxN hxd i1
        go_wp2_with ((first
          | (go_at_call 33; refine (refBRight_any (b := ⟨s, m, x, p, l⟩) o3.recs hp.out).mono ?_; rintro e w2 ⟨rfl, hx⟩; rw [hdec.out]; replace f8 := f8.ext hx; replace o3 := o3.ext hx; replace f2 := f2.ext hx; replace hX := hX.trans hx; clear hx)
          | ((with_reducible refine at_sbuild ?_); refine w_sbuild Try.stBlk [.int .i64 0, .int .i64 0, .int .i64 0, .int .i64 0, .slice none 0 0] rfl rfl rfl (by intro p hp; simp at hp) ?_)
          | ((with_reducible refine at_store ?_); refine w_astore Try.stBlk (us := [.int .i64 0, .int .i64 0, .int .i64 0, .int .i64 0, .slice none 0 0]) _ _ rfl rfl rfl rfl rfl f2 rfl rfl (blk_one rfl) ?_; intro w9 hm f2'; replace f2 := f2'; replace hX := hm.after hX (fun i e => e ▸ hg2); clear hm f2')
          | ((with_reducible refine at_store ?_); refine w_astore Try.stBlk (us := [.int .i64 s, .int .i64 m, .int .i64 x, .int .i64 p, v3]) _ _ rfl rfl rfl rfl rfl f2 rfl rfl (blk_one o3.recs.one') ?_; intro w9 hm f2'; replace f2 := f2'; replace o3 := o3.mod hm (fun k hk e => n32 k hk e); replace hX := hm.after hX (fun i e => e ▸ hg2); clear hm f2')
          | ((with_reducible refine at_load ?_); (try refine w_yes _ _ _ rfl rfl rfl ?_); refine w_aload Try.stBlk _ rfl rfl rfl f8 rfl ?_)
          | fail) <;> (try simp only [Act.put, List.setIfInBounds_toArray, List.set_cons_zero, List.set_cons_succ]))
        exact bodyPost_ret (ret_two Try.stBlk rfl rfl rfl f2 rfl) rfl (No.out _ _ rfl hX)

end Go.Proofs.Ytgbhbifdfcfamaa
