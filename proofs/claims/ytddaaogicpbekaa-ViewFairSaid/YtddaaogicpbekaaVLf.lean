/- The statement ViewFair: everybody has a turn; patience never falls from view to view. No condition. -/
import Derived.Test.YtddaaogicpbekaaVLn
import Derived.Test.YtddaaogicpbekaaArrV
import Derived.Test.YtddaaogicpbekaaArr3
import Derived.Test.YtddaaogicpbekaaFD
import Derived.Deep.Cut
namespace Go.Proofs.Ytddaaogicpbekaa
open Go.RowKit Go.ChangeShapes Go.WideShapes Go.ChangeAt

theorem Try.arr7 : ArT Try.prog 31 3 7 (i64s [0, 0, 0, 0, 0, 0, 0]) := ArT.of Try.underlying31 (by kernel_rfl) (by kernel_rfl) rfl
theorem r_aidx3 {o : Oper} {ρ : Operand → Value} {w : World} (x : Operand) {g i : Nat} (ho : o.op = .indexAddr 30 x (.const (.int .i64 (i : Int)))) (hx : ρ x = .pointer (some ⟨g, 0, none⟩)) (hc : ρ (.const (.int .i64 (i : Int))) = .int .i64 (i : Int)) (hi : i < 3) : Runs Try.prog o ρ w (.pointer (some ⟨g, i, none⟩)) := by
  have hi0 : ∃ i0, Try.prog.info? 3 = some i0 ∧ i0.size = 1 := by
    have : (Try.prog.info? 3).map (·.size) = some 1 := by kernel_rfl
    cases hq : Try.prog.info? 3 with
    | none => rw [hq] at this; simp at this
    | some j => exact ⟨j, rfl, by simpa [hq] using this⟩
  obtain ⟨i0, h1, h2⟩ := hi0
  have := runs_aidx (o := o) (ρ := ρ) (w := w) Try.underlying30 h1 h2 x _ ho hx i hc hi
  rwa [add_zero_off] at this

set_option maxRecDepth 100000 in
set_option maxHeartbeats 3200000 in
theorem viewFair_law (i f n b m : Int) (W : World) (hfI : f ≤ 9223372036854775807) : Calls Try.prog 7 #[.int .i64 i, .int .i64 f, .agg #[.int .i64 n, .int .i64 b, .int .i64 m]] W fun e w' => e = .returned (.bool true) ∧ Ext W w' := by
  refine calls_keep ?_
  have hX := Ext.refl W
  have hfI' := hide_ hfI
  clear hfI
  go_enter Try.func7, Try.ntmps7
  go_wp2_with ((first
    | ((with_reducible refine at_box ?_); refine w_box _ [.int .i64 n, .int .i64 b, .int .i64 m] rfl rfl rfl rfl ?_; intro g5 w1 hg5 hx f5; replace hX := hX.trans hx; clear hx hg5)
    | fail) <;> (try simp only [Act.put, List.setIfInBounds_toArray, List.set_cons_zero, List.set_cons_succ]))
  refine wp_region_phx (by kernel_rfl) ?_; intro wd hxd; have F5 := f5.ext hxd
  refine Ph.rest 0 9 (by kernel_rfl) ?_
  refine LinL.step (s := (.val (.pointer (some ⟨g5, 0, none⟩)))) [(5, none)] rfl (by kernel_rfl) (op_runs rfl fun σ w' hx hg => ⟨_, r_aidx3 (ρ := σ.eval) (w := w') (.tmp 5) (i := 0) rfl hg.1 rfl (by omega), rfl⟩) ?_
  refine LinL.step (s := (.val (.int .i64 n))) [(13, some 0)] rfl (by kernel_rfl) (op_runs rfl fun σ w' hx hg => ⟨_, runs_fload (ρ := σ.eval) (w := w') (.tmp 13) rfl hg.1 (agg_of (by kernel_rfl) _) (F5.ext hx) rfl, rfl⟩) ?_
  refine LinL.step (s := (.val (.pointer (some ⟨g5, 1, none⟩)))) [(5, none)] rfl (by kernel_rfl) (op_runs rfl fun σ w' hx hg => ⟨_, r_aidx3 (ρ := σ.eval) (w := w') (.tmp 5) (i := 1) rfl hg.1 rfl (by omega), rfl⟩) ?_
  refine LinL.step (s := (.val (.int .i64 b))) [(15, some 0)] rfl (by kernel_rfl) (op_runs rfl fun σ w' hx hg => ⟨_, runs_fload (ρ := σ.eval) (w := w') (.tmp 15) rfl hg.1 (agg_of (by kernel_rfl) _) (F5.ext hx) rfl, rfl⟩) ?_
  refine LinL.step (s := (.val (.pointer (some ⟨g5, 2, none⟩)))) [(5, none)] rfl (by kernel_rfl) (op_runs rfl fun σ w' hx hg => ⟨_, r_aidx3 (ρ := σ.eval) (w := w') (.tmp 5) (i := 2) rfl hg.1 rfl (by omega), rfl⟩) ?_
  refine LinL.step (s := (.val (.int .i64 m))) [(17, some 0)] rfl (by kernel_rfl) (op_runs rfl fun σ w' hx hg => ⟨_, runs_fload (ρ := σ.eval) (w := w') (.tmp 17) rfl hg.1 (agg_of (by kernel_rfl) _) (F5.ext hx) rfl, rfl⟩) ?_
  refine LinL.step (s := (.val (.int .i64 n))) [(14, some 4)] rfl (by kernel_rfl) (op_copy 14 4 (.val (.int .i64 n)) rfl (.inr rfl) rfl) ?_
  refine LinL.step (s := (.val (.int .i64 b))) [(16, some 3)] rfl (by kernel_rfl) (op_copy 16 3 (.val (.int .i64 b)) rfl (.inr rfl) rfl) ?_
  refine LinL.step (s := (.val (.int .i64 m))) [(18, some 2)] rfl (by kernel_rfl) (op_copy 18 2 (.val (.int .i64 m)) rfl (.inr rfl) rfl) ?_
  intro wN hxN
  simp only [Fin', List.reverse_cons, List.reverse_nil, List.nil_append, List.cons_append, List.drop_zero, List.take_succ_cons, List.take_zero]
  simp only [Act.put, List.setIfInBounds_toArray, List.set_cons_zero, List.set_cons_succ]
  replace hX := hX.trans (hxd.trans hxN)
  clear hxd hxN F5 f5
  go_upto_region 4 with (first
    | (go_at_call 3; refine (viewNames_any _).mono ?_; rintro e w4 ⟨rfl, hx⟩; replace hX := hX.trans hx; clear hx)
    | fail)
  by_cases h1 : i < 0
  · have d1 : decide (i < 0) = true := decide_eq_true h1
    clear h1
    go_wp2_with (first
      | go_big_skip
      | fail)
    go_ret
    exact Keep.intro ⟨rfl, hX⟩
  have d1 : decide (i < 0) = false := decide_eq_false h1
  by_cases h2 : 1000 < i
  · have d2 : decide (1000 < i) = true := decide_eq_true h2
    clear h1 h2
    go_wp2_with (first
      | go_big_skip
      | fail)
    go_ret
    exact Keep.intro ⟨rfl, hX⟩
  have d2 : decide (1000 < i) = false := decide_eq_false h2
  by_cases h3 : f < 0
  · have d3 : decide (f < 0) = true := decide_eq_true h3
    clear h1 h2 h3
    go_wp2_with (first
      | go_big_skip
      | fail)
    go_ret
    exact Keep.intro ⟨rfl, hX⟩
  have d3 : decide (f < 0) = false := decide_eq_false h3
  by_cases h4 : 900 < f
  · have d4 : decide (900 < f) = true := decide_eq_true h4
    clear h1 h2 h3 h4
    go_wp2_with (first
      | go_big_skip
      | fail)
    go_ret
    exact Keep.intro ⟨rfl, hX⟩
  have d4 : decide (900 < f) = false := decide_eq_false h4
  by_cases h5 : n < 1
  · have d5 : decide (n < 1) = true := decide_eq_true h5
    clear h1 h2 h3 h4 h5
    go_wp2_with (first
      | go_big_skip
      | fail)
    go_ret
    exact Keep.intro ⟨rfl, hX⟩
  have d5 : decide (n < 1) = false := decide_eq_false h5
  by_cases h6 : 7 < n
  · have d6 : decide (7 < n) = true := decide_eq_true h6
    clear h1 h2 h3 h4 h5 h6
    go_wp2_with (first
      | go_big_skip
      | fail)
    go_ret
    exact Keep.intro ⟨rfl, hX⟩
  have d6 : decide (7 < n) = false := decide_eq_false h6
  have bi : 0 ≤ i ∧ i ≤ 1000 := by omega
  have bf : 0 ≤ f ∧ f ≤ 900 := by omega
  have bn : 1 ≤ n ∧ n ≤ 7 := by omega
  obtain ⟨N, hN0⟩ : ∃ N : Nat, n = N := ⟨n.toNat, by omega⟩
  obtain ⟨r, hr0⟩ : ∃ r : Nat, (r : Int) = (i + f) % n := ⟨((i + f) % n).toNat, by have := Int.emod_nonneg (i + f) (show n ≠ 0 by omega); omega⟩
  have hrN0 : r < N := by have := Int.emod_lt_of_pos (i + f) (show 0 < n by omega); omega
  have hon := hide_ (fun (z : Int) (k : Nat) => ldr_on (i := i) (f := f) (n := n) (z := z) (r := r) (N := N) (k := k) bi bf hN0 (by omega) hr0)
  have hrd := hide_ (ldr_round bi bf bn)
  have hmono := hide_ (fun (z : Int) (h : 0 ≤ z) => pat_mono (v := f + z) (b := b) (m := m) (by omega))
  have hNn := hide_ hN0
  have hN := hide_ (show 1 ≤ N ∧ N ≤ 7 by omega)
  have hrN := hide_ hrN0
  obtain ⟨c1, c2⟩ := bf; obtain ⟨c3, c4⟩ := bn
  clear h1 h2 h3 h4 h5 h6 bi hN0 hr0 hrN0
  obtain ⟨l0, hl00⟩ : ∃ l : List Int, l = [0, 0, 0, 0, 0, 0, 0] := ⟨_, rfl⟩
  have hl0 := hide_ hl00
  have A7 : ArT Try.prog 31 3 7 (i64s l0) := by rw [hl00]; exact Try.arr7
  have hlen0 := hide_ (show (i64s l0).length = 7 by rw [hl00]; rfl)
  clear hl00
  go_wp2_with ((first
    | go_big_skip
    | ((with_reducible refine at_sbuild ?_); refine w_arrzero A7 rfl rfl ?_)
    | ((with_reducible refine at_alloc ?_); refine w_arralloc A7 rfl rfl ?_; intro g w5 hg hx f1; have hgW := hide_ (Nat.le_trans hX.size hg); replace hX := hX.trans hx; clear hx hg)
    | ((with_reducible refine at_store ?_); refine w_arrstore A7 _ _ rfl rfl rfl rfl rfl f1 hlen0.out hlen0.out (i64s_one _) ?_; intro w6 hm f2; replace hX := hm.after hX (fun i hi => by subst hi; exact hgW.out); clear hm f1)
    | fail) <;> (try simp only [Act.put, List.setIfInBounds_toArray, List.set_cons_zero, List.set_cons_succ]))
  clear d1 d2 d3 d4 d5 d6
  go_loopw [11] (fun u wr => ∃ (z : Int) (k : Nat) (l : List Int), u = .int .i64 z ∧ Hid (z = k) ∧ Hid (k ≤ N) ∧ 0 ≤ z ∧ z ≤ 7 ∧ Hid (l = sn N r k) ∧ Fs wr g (i64s l) ∧ Ext W wr) (fun u _ => (7 - RowKit.intOf u).toNat)
  case atStart => exact ⟨0, 0, l0, rfl, hide_ rfl, hide_ (Nat.zero_le _), by omega, by omega, hide_ (by rw [sn_zero]; exact hl0.out), f2, hX⟩
  case round =>
    clear hX f2 A7
    obtain ⟨z, k, l, rfl, hz, hkN, hz0, hz7, hl, f2, hX⟩ := hrel
    by_cases hc : z < n
    · have d1 : decide (z < n) = true := decide_eq_true hc
      have hk := hide_ (show k < N by have := hz.out; have := hNn.out; omega)
      obtain ⟨L, hL0⟩ : ∃ L, (r + k) % N = L := ⟨_, rfl⟩
      have hld := hide_ (show ldr i (f + z) n = ((L : Nat) : Int) by rw [← hL0]; exact hon.out z k hz.out (Nat.le_of_lt hk.out))
      have hs := sn_step hN.out hrN.out hk.out
      rw [hL0, ← hl.out] at hs
      have hL7 := hide_ (show L < 7 by rw [← hL0]; have := Nat.mod_lt (r + k) (show 0 < N by have := hN.out; omega); have := hN.out; omega)
      have hget := hide_ (show (i64s l)[L]? = some (.int .i64 0) by unfold i64s; rw [List.getElem?_map, hs.1]; rfl)
      have hset := hide_ (show (i64s l).set L (.int .i64 1) = i64s (sn N r (k + 1)) by unfold i64s; rw [← hs.2, List.map_set])
      have hLl := hide_ (show L < (i64s l).length by rw [hl.out, i64s_length, sn_len]; exact hL7.out)
      obtain ⟨p, hp0⟩ : ∃ p, pat (f + z) b m = p := ⟨_, rfl⟩
      obtain ⟨q, hq0⟩ : ∃ q, pat (f + z + 1) b m = q := ⟨_, rfl⟩
      have hp := hide_ hp0
      have hq := hide_ hq0
      have dpq : decide (q < p) = false := decide_eq_false (by have := hmono.out z hz0; rw [hp0, hq0] at this; omega)
      have hc' := hide_ hc
      clear hL0 hs hp0 hq0 hc
      go_wp2_with ((first
        | (go_at_call 10; refine Leader_any.mono ?_; rintro e w4 ⟨rfl, hx⟩; rw [hld.out]; replace f2 := f2.ext hx; replace hX := hX.trans hx; clear hx)
        | (go_at_call 9; refine (Patience_any (by omega)).mono ?_; rintro e w4 ⟨rfl, hx⟩; (first | rw [hp.out] | rw [hq.out]); replace f2 := f2.ext hx; replace hX := hX.trans hx; clear hx)
        | ((with_reducible refine at_idx ?_); refine w_arraddr Try.arr7 (.tmp 10) _ L rfl rfl rfl rfl hL7.out ?_)
        | ((with_reducible refine at_load ?_); refine w_fload _ rfl rfl rfl f2 hget.out (agg_of (by kernel_rfl)) ?_)
        | ((with_reducible refine at_store ?_); refine w_fstore _ _ (u := .int .i64 1) rfl rfl rfl rfl rfl f2 hLl.out rfl rfl (by kernel_rfl) ?_; clear f2; intro w6 hm f2; rw [hset.out] at f2; replace hX := hm.after hX (fun i hi => by subst hi; exact hgW.out); clear hm)
        | fail) <;> (try simp only [Act.put, List.setIfInBounds_toArray, List.set_cons_zero, List.set_cons_succ]))
      go_roundw
      case rel => exact ⟨z + 1, k + 1, _, rfl, hide_ (by have := hz.out; omega), hk, by omega, by have := hc'.out; omega, hide_ rfl, f2, hX⟩
      case measure => have := hc'.out; simp [RowKit.intOf]; omega
    · have d1 : decide (z < n) = false := decide_eq_false hc
      have hkN' := hide_ (show k = N by have := hz.out; have := hNn.out; have := hkN.out; omega)
      have hget := hide_ (fun (j : Nat) (hj : j < N) => show (i64s l)[j]? = some (.int .i64 1) by rw [hl.out, hkN'.out]; unfold i64s; rw [List.getElem?_map, sn_all hN.out hrN.out hj]; rfl)
      clear hc hz hkN hl hkN' hz0 hz7
      go_wp2
      clear d1
      go_loopw [12] (fun u wr => ∃ (z : Int) (k : Nat), u = .int .i64 z ∧ Hid (z = k) ∧ 0 ≤ z ∧ z ≤ 7 ∧ Fs wr g (i64s l) ∧ Ext W wr) (fun u _ => (7 - RowKit.intOf u).toNat)
      case atStart => exact ⟨0, 0, rfl, hide_ rfl, by omega, by omega, f2, hX⟩
      case round =>
        clear hX f2
        obtain ⟨z, k, rfl, hz, hz0, hz7, f2, hX⟩ := hrel
        by_cases hc : z < n
        · have d1 : decide (z < n) = true := decide_eq_true hc
          have hk := hide_ (show k < N by have := hz.out; have := hNn.out; omega)
          have hk7 := hide_ (show k < 7 by have := hk.out; have := hN.out; omega)
          have hc' := hide_ hc
          clear hc
          go_wp2_with ((first
            | ((with_reducible refine at_idx ?_); refine w_arraddr Try.arr7 (.tmp 10) _ k rfl rfl rfl (by rw [← hz.out]; rfl) hk7.out ?_)
            | ((with_reducible refine at_load ?_); refine w_fload _ rfl rfl rfl f2 (hget.out k hk.out) (agg_of (by kernel_rfl)) ?_)
            | fail) <;> (try simp only [Act.put, List.setIfInBounds_toArray, List.set_cons_zero, List.set_cons_succ]))
          go_roundw
          case rel => exact ⟨z + 1, k + 1, rfl, hide_ (by have := hz.out; omega), by omega, by have := hc'.out; omega, f2, hX⟩
          case measure => have := hc'.out; simp [RowKit.intOf]; omega
        · have d1 : decide (z < n) = false := decide_eq_false hc
          obtain ⟨s, hs0⟩ : ∃ s, ldr i f n = s := ⟨_, rfl⟩
          have hs1 := hide_ hs0
          have hs2 := hide_ (show ldr i (f + n) n = s by rw [hrd.out, hs0])
          clear hc hs0
          go_wp2_with (first
            | (go_at_call 10; refine Leader_any.mono ?_; rintro e w4 ⟨rfl, hx⟩; (first | rw [hs1.out] | rw [hs2.out]); replace hX := hX.trans hx; clear hx)
            | fail)
          go_ret
          exact Keep.intro ⟨rfl, hX⟩

set_option maxRecDepth 100000 in
theorem viewFair_lifted (os : Os) (started : os.Started) (H : Type) (enc : TypeId × Value → H) :
    ReturnsInHanded {} Try.checked os 7 .any (Rows.viewFairSpec.pre6 enc Try.prog Try.f7 Rows.viewFairRow.domain false) (Rows.viewFairSpec.post enc Try.prog Try.f7 false true false false) := by
  refine law_lifted (s := Rows.viewFairSpec) (conds := Rows.viewFairRow.domain) Try.func7 (by kernel_rfl) rfl (fun H ds h => by
      rw [show Try.f7.params.size = 3 from rfl] at h
      match ds, h with
      | [d0, d1, d2], _ => rfl) rfl rfl (by decide +kernel) os started H enc
    (ChangeSpec.witness6 (enc := enc) (C := Try.checked) false ⟨#[], #[.int .i64 0, .int .i64 0, .agg #[.int .i64 0, .int .i64 0, .int .i64 0]], []⟩ 8 (by kernel_rfl) (by kernel_rfl) (by kernel_rfl) (by kernel_rfl)) ?_
  intro W base args ds p hval hA hsz _
  have hp : Try.f7.params.toList = [3, 3, 30] := rfl
  rw [hp] at hA hsz
  obtain ⟨v0, v1, v2, d0, d1, d2, p0, p1, p2, rfl, rfl, rfl, h0, h1, h2⟩ := trodAll_three hA
  obtain ⟨a0, rfl, b0, c0⟩ := arg_int (hval 0 3 v0 rfl rfl) h0
  obtain ⟨a1, rfl, b1, c1⟩ := arg_int (hval 1 3 v1 rfl rfl) h1
  obtain ⟨x2, y2, z2, rfl, b2, c2, d2⟩ := open_int_array3 Try.underlying30 Try.underlying3 (by kernel_rfl) (by kernel_rfl) (hval 2 30 v2 rfl rfl) h2
  simp [Lit.wf, IntKind.min, IntKind.max, IntKind.signed, IntKind.bits] at b2 c2 d2
  exact viewFair_law a0 a1 x2 y2 z2 W c1

theorem viewFair_holds : Rows.ViewFairSaid :=
  OpenClaim.holds_of_wide 7 Try.f7 rfl rfl rfl rfl rfl rfl rfl ⟨rfl, rfl, rfl, rfl, rfl⟩ rfl rfl rfl rfl rfl (by kernel_rfl) Try.func7 (by kernel_rfl)
    (of_decide_eq_true (by kernel_rfl)) (by unfold Func.isWrapper; first | (rw [if_pos (by decide +kernel)]; kernel_rfl) | (rw [if_neg (by decide +kernel)]; exact ⟨rfl, rfl⟩))
    (fun os started H enc _ => viewFair_lifted os started H enc)
#print axioms viewFair_holds

end Go.Proofs.Ytddaaogicpbekaa
