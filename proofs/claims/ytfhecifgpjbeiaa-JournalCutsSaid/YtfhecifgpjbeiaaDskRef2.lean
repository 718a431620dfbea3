/- The contracts of the document's Crash and Cut. Condition: a disk as it can be; G: blocks that its bytes don't lie in. -/
import Derived.Test.YtfhecifgpjbeiaaDskRef
namespace Go.Proofs.Ytfhecifgpjbeiaa
open Go.RowKit

set_option maxRecDepth 100000 in
set_option maxHeartbeats 1600000 in
theorem RCrash_any {G : Nat → Prop} {val : Value} {D : DSt} {w : World} (n : Int) (hG : ∀ k, G k → k < w.heap.size) (h : RD G w val D) : Calls Try.prog 22 #[val, .int .i64 n] w fun e w' => ∃ val', e = .returned val' ∧ Ext w w' ∧ RD G w' val' (D.crash n) := by
  obtain ⟨⟨v, rfl, hs⟩, ho⟩ := h
  have hv := hs.sl
  have c1 : v.cells = #[v] := hv.oneCell
  clear hs
  refine calls_keep ?_
  obtain ⟨x, hx⟩ : ∃ x, x = D.s + bet n (D.l.length - D.s) := ⟨_, rfl⟩
  have hbl := bet_le n (D.l.length - D.s)
  have hsl := ho.s
  have hxl : x ≤ D.l.length := by omega
  have Hb := hide_ (bet_int n (D.l.length - D.s))
  have Hx := hide_ hx
  have hsx : D.s ≤ x := by omega
  have o3 := ho.len
  have hD := hide_ (show (DSt.sync ⟨D.l.take x, 0, D.lim⟩) = D.crash n from by unfold DSt.sync DSt.crash; rw [← hx]; simp [Nat.min_eq_left hxl])
  have hok := hide_ (show DSt.Ok ⟨D.l.take x, 0, D.lim⟩ from ⟨by simp, ho.lim, by rw [List.length_take]; omega⟩)
  have n0 : ([] : List Nat).length + (D.l.take D.s).length ≤ 140737488355328 := by simp; omega
  clear hx hbl ho
  go_enter Try.func22, Try.ntmps22
  go_wp2_with (first
    | (refine w_box _ [v, .int .i64 D.s, .int .i64 D.lim] rfl rfl rfl rfl ?_; intro g2 w1 hg2 hX f2; (try simp only [Act.put, List.setIfInBounds_toArray, List.set_cons_zero, List.set_cons_succ]))
    | (refine w_alloc Try.stR rfl rfl ?_; intro g4 w2 hg4 hx2 f4; have hne : g4 ≠ g2 := (by have := f2.lt; omega); have hn4 : w.heap.size ≤ g4 := Nat.le_trans hX.size hg4; replace f2 := f2.ext hx2; replace hX := hX.trans hx2; clear hg4 hx2; (try simp only [Act.put, List.setIfInBounds_toArray, List.set_cons_zero, List.set_cons_succ]))
    | ((try refine w_yes _ _ _ rfl rfl rfl ?_); refine w_field Try.stR _ _ _ rfl rfl rfl (by omega) ?_; (try simp only [Act.put, List.setIfInBounds_toArray, List.set_cons_zero, List.set_cons_succ]))
    | ((try refine w_yes _ _ _ rfl rfl rfl ?_); refine w_fload _ rfl rfl rfl f2 rfl (agg_of (by kernel_rfl)) ?_; (try simp only [Act.put, List.setIfInBounds_toArray, List.set_cons_zero, List.set_cons_succ]))
    | (refine b_to _ _ D.s rfl rfl (v := v) rfl (hv.ext hX) rfl hsl ?_; intro vs hvs; (try simp only [Act.put, List.setIfInBounds_toArray, List.set_cons_zero, List.set_cons_succ]))
    | (refine w_bempty rfl rfl ?_; intro v1 wn B hB1 hBl hxn o1; have hBw : w.heap.size ≤ B := Nat.le_trans hX.size hB1; have l2 : g2 < B := Nat.lt_of_lt_of_le f2.lt hB1; have l4 : g4 < B := Nat.lt_of_lt_of_le f4.lt hB1; replace f2 := f2.ext hxn; replace f4 := f4.ext hxn; replace hX := hX.trans hxn; clear hxn hB1; (try simp only [Act.put, List.setIfInBounds_toArray, List.set_cons_zero, List.set_cons_succ]))
    | (refine appb _ _ rfl rfl rfl rfl o1 hvs n0 hBl ?_; intro v2 wa o2 hba hga; rw [List.nil_append] at o2; replace f2 := f2.below hba l2; replace f4 := f4.below hba l4; replace hX := hX.trans' (hba.mono hBw); replace hBl := Nat.le_trans hBl hba.size; clear o1 hba hga hvs; (try simp only [Act.put, List.setIfInBounds_toArray, List.set_cons_zero, List.set_cons_succ]))
    | fail)
  go_loopw [5, 6] (fun out i wr => ∃ k : Nat, i = .int .i64 k ∧ D.s ≤ k ∧ k ≤ x ∧ Hid (OwnB B wr out (D.l.take k)) ∧ Fs wr g2 [v, .int .i64 D.s, .int .i64 D.lim] ∧ Fs wr g4 [.slice none 0 0, .int .i64 0, .int .i64 0] ∧ Ext w wr ∧ B ≤ wr.heap.size)
    (fun _ i _ => D.l.length - (intOf i).toNat)
  case atStart => exact ⟨D.s, rfl, Nat.le_refl _, hsx, hide_ o2, f2, f4, hX, hBl⟩
  case round =>
    clear f2 f4 hX hBl
    obtain ⟨k, rfl, hlo, hk, ho1, f2, f4, hX, hBl⟩ := hrel
    have o1 := ho1.out
    by_cases hlt : k < x
    · have hkl : k < D.l.length := by omega
      have t0 : decide (k < D.l.length) = true := by simpa using hkl
      have t1 : decide ((k : Int) - (D.s : Int) < n) = true := by have h1 := Hx.out; have h2 := Hb.out; simp; omega
      have nk : (D.l.take k).length + [D.l[k]].length ≤ 140737488355328 := by simp; omega
      have hnk := hide_ (take_one_more D.l hkl)
      go_wp2_with (first
        | ((try refine w_yes _ _ _ rfl rfl rfl ?_); refine w_field Try.stR _ _ _ rfl rfl rfl (by omega) ?_; (try simp only [Act.put, List.setIfInBounds_toArray, List.set_cons_zero, List.set_cons_succ]))
        | ((try refine w_yes _ _ _ rfl rfl rfl ?_); refine w_fload _ rfl rfl rfl f2 rfl (agg_of (by kernel_rfl)) ?_; (try simp only [Act.put, List.setIfInBounds_toArray, List.set_cons_zero, List.set_cons_succ]))
        | (refine b_len _ rfl rfl (v := v) rfl (hv.ext hX) ?_; (try simp only [Act.put, List.setIfInBounds_toArray, List.set_cons_zero, List.set_cons_succ]))
        | (refine b_idx _ _ k rfl rfl (v := v) rfl (hv.ext hX) rfl hkl ?_; intro ad had; (try simp only [Act.put, List.setIfInBounds_toArray, List.set_cons_zero, List.set_cons_succ]))
        | (refine w_bytes [D.l[k]] rfl rfl rfl rfl (by omega) ?_; intro vo wo hxo hoo; replace f2 := f2.ext hxo; replace f4 := f4.ext hxo; replace hX := hX.trans hxo; replace o1 := o1.ext hxo; replace hBl := Nat.le_trans hBl hxo.size; clear hxo; (try simp only [Act.put, List.setIfInBounds_toArray, List.set_cons_zero, List.set_cons_succ]))
        | (refine appb _ _ rfl rfl rfl rfl o1 hoo.byt nk hBl ?_; intro v2 wa o2 hba hga; replace f2 := f2.below hba l2; replace f4 := f4.below hba l4; replace hX := hX.trans' (hba.mono hBw); replace hBl := Nat.le_trans hBl hba.size; clear o1 hba hga hoo; (try simp only [Act.put, List.setIfInBounds_toArray, List.set_cons_zero, List.set_cons_succ]))
        | fail)
      go_roundw
      case rel => exact ⟨k + 1, by go_num, by omega, by omega, hide_ (by rw [hnk.out]; exact o2), f2, f4, hX, hBl⟩
      case measure => simp [intOf]; omega
    · obtain rfl : k = x := by omega
      have hG4 : ∀ j, (G j ∨ j = g4) → j < B := fun j hj => hj.elim (fun h => Nat.lt_of_lt_of_le (hG j h) hBw) fun h => h ▸ l4
      have hD := hide_ (show (DSt.sync ⟨D.l.take k, 0, D.lim⟩) = D.crash n from hD.out)
      by_cases hend : k < D.l.length
      · have t0 : decide (k < D.l.length) = true := by simpa using hend
        have t1 : decide ((k : Int) - (D.s : Int) < n) = false := by have h1 := Hx.out; have h2 := Hb.out; simp; omega
        go_wp2_with (first
          | ((try refine w_yes _ _ _ rfl rfl rfl ?_); refine w_field Try.stR _ _ _ rfl rfl rfl (by omega) ?_; (try simp only [Act.put, List.setIfInBounds_toArray, List.set_cons_zero, List.set_cons_succ]))
          | ((try refine w_yes _ _ _ rfl rfl rfl ?_); refine w_fload _ rfl rfl rfl f2 rfl (agg_of (by kernel_rfl)) ?_; (try simp only [Act.put, List.setIfInBounds_toArray, List.set_cons_zero, List.set_cons_succ]))
          | (refine b_len _ rfl rfl (v := v) rfl (hv.ext hX) ?_; (try simp only [Act.put, List.setIfInBounds_toArray, List.set_cons_zero, List.set_cons_succ]))
          | (refine w_sbuild Try.stR [u5, .int .i64 0, .int .i64 D.lim] rfl rfl rfl ?_ ?_; (intro p hp; simp at hp; rcases hp with rfl | rfl; exact ⟨by decide, oneCell_cells o1.byt.one'⟩; exact ⟨by decide, rfl⟩); (try simp only [Act.put, List.setIfInBounds_toArray, List.set_cons_zero, List.set_cons_succ]))
          | (go_at_call 20; refine (RSync_any (RD.made (D := ⟨D.l.take k, 0, D.lim⟩) (o1.safe (G := fun j => G j ∨ j = g4) hG4) hok.out)).mono ?_; rintro e ws ⟨vz, rfl, hxs, hR⟩; rw [hD.out] at hR; obtain ⟨⟨vy, rfl, hsf⟩, hok2⟩ := hR; replace f4 := f4.ext hxs; replace hX := hX.trans hxs; have c5 : vy.oneCell' = true := hsf.sl.one'; (try simp only [Act.put, List.setIfInBounds_toArray, List.set_cons_zero, List.set_cons_succ]))
          | (refine w_astore Try.stR (us := [vy, .int .i64 (D.crash n).s, .int .i64 (D.crash n).lim]) _ _ rfl rfl rfl rfl rfl f4 rfl rfl (List.forall_mem_cons.2 ⟨c5, List.forall_mem_cons.2 ⟨rfl, List.forall_mem_cons.2 ⟨rfl, by simp⟩⟩⟩) ?_; intro w5 hm5 f5; have hx5 := hm5.after hX (fun i e => e ▸ hn4); have hsf5 := hsf.mod' hm5 fun k hk e => hsf.off k hk (.inr e); (try simp only [Act.put, List.setIfInBounds_toArray, List.set_cons_zero, List.set_cons_succ]))
          | fail)
        exact bodyPost_ret (ret_one Try.stR rfl rfl f5 rfl) rfl (Keep.intro ⟨_, rfl, hx5, RD.made (D := D.crash n) (hsf5.weak fun k _ hg => .inl hg) hok2⟩)
      · have t0 : decide (k < D.l.length) = false := by simpa using hend
        go_wp2_with (first
          | ((try refine w_yes _ _ _ rfl rfl rfl ?_); refine w_field Try.stR _ _ _ rfl rfl rfl (by omega) ?_; (try simp only [Act.put, List.setIfInBounds_toArray, List.set_cons_zero, List.set_cons_succ]))
          | ((try refine w_yes _ _ _ rfl rfl rfl ?_); refine w_fload _ rfl rfl rfl f2 rfl (agg_of (by kernel_rfl)) ?_; (try simp only [Act.put, List.setIfInBounds_toArray, List.set_cons_zero, List.set_cons_succ]))
          | (refine b_len _ rfl rfl (v := v) rfl (hv.ext hX) ?_; (try simp only [Act.put, List.setIfInBounds_toArray, List.set_cons_zero, List.set_cons_succ]))
          | (refine w_sbuild Try.stR [u5, .int .i64 0, .int .i64 D.lim] rfl rfl rfl ?_ ?_; (intro p hp; simp at hp; rcases hp with rfl | rfl; exact ⟨by decide, oneCell_cells o1.byt.one'⟩; exact ⟨by decide, rfl⟩); (try simp only [Act.put, List.setIfInBounds_toArray, List.set_cons_zero, List.set_cons_succ]))
          | (go_at_call 20; refine (RSync_any (RD.made (D := ⟨D.l.take k, 0, D.lim⟩) (o1.safe (G := fun j => G j ∨ j = g4) hG4) hok.out)).mono ?_; rintro e ws ⟨vz, rfl, hxs, hR⟩; rw [hD.out] at hR; obtain ⟨⟨vy, rfl, hsf⟩, hok2⟩ := hR; replace f4 := f4.ext hxs; replace hX := hX.trans hxs; have c5 : vy.oneCell' = true := hsf.sl.one'; (try simp only [Act.put, List.setIfInBounds_toArray, List.set_cons_zero, List.set_cons_succ]))
          | (refine w_astore Try.stR (us := [vy, .int .i64 (D.crash n).s, .int .i64 (D.crash n).lim]) _ _ rfl rfl rfl rfl rfl f4 rfl rfl (List.forall_mem_cons.2 ⟨c5, List.forall_mem_cons.2 ⟨rfl, List.forall_mem_cons.2 ⟨rfl, by simp⟩⟩⟩) ?_; intro w5 hm5 f5; have hx5 := hm5.after hX (fun i e => e ▸ hn4); have hsf5 := hsf.mod' hm5 fun k hk e => hsf.off k hk (.inr e); (try simp only [Act.put, List.setIfInBounds_toArray, List.set_cons_zero, List.set_cons_succ]))
          | fail)
        exact bodyPost_ret (ret_one Try.stR rfl rfl f5 rfl) rfl (Keep.intro ⟨_, rfl, hx5, RD.made (D := D.crash n) (hsf5.weak fun k _ hg => .inl hg) hok2⟩)
end Go.Proofs.Ytfhecifgpjbeiaa
