/- The contracts of the document's disk. Condition: a disk as it can be; G: blocks that its bytes don't lie in. -/
import Derived.Test.YtfhecifgpjbeiaaDsk
import Derived.Test.YtfhecifgpjbeiaaLitStep
namespace Go.Proofs.Ytfhecifgpjbeiaa
open Go.RowKit

theorem Try.stR : St Try.prog 40 3 [.slice none 0 0, .int .i64 0, .int .i64 0] := St.of (by kernel_rfl) (by kernel_rfl) rfl

/-- val is the document's disk D; its bytes lie outside of G. -/
structure RD (G : Nat → Prop) (w : World) (val : Value) (D : DSt) : Prop where
  ex : ∃ v, val = .agg #[v, .int .i64 D.s, .int .i64 D.lim] ∧ Safe G w v (u8s D.l)
  ok : D.Ok
theorem RD.ext {G : Nat → Prop} {w w' : World} {val : Value} {D : DSt} (h : RD G w val D) (he : Ext w w') : RD G w' val D := by
  obtain ⟨⟨v, h1, h2⟩, ho⟩ := h; exact ⟨⟨v, h1, h2.ext he⟩, ho⟩
theorem RD.mod {G F : Nat → Prop} {w w' : World} {val : Value} {D : DSt} (h : RD G w val D) (hm : Mod F w w') (hs : ∀ k, F k → G k) : RD G w' val D := by
  obtain ⟨⟨v, h1, h2⟩, ho⟩ := h; exact ⟨⟨v, h1, h2.mod hm hs⟩, ho⟩
theorem RD.weak {G G' : Nat → Prop} {w : World} {val : Value} {D : DSt} (h : RD G w val D) (hs : ∀ k, k < w.heap.size → G' k → G k) : RD G' w val D := by
  obtain ⟨⟨v, h1, h2⟩, ho⟩ := h; exact ⟨⟨v, h1, h2.weak hs⟩, ho⟩
theorem RD.made {G : Nat → Prop} {w : World} {v : Value} {D : DSt} (h : Safe G w v (u8s D.l)) (ho : D.Ok) : RD G w (.agg #[v, .int .i64 D.s, .int .i64 D.lim]) D := ⟨⟨v, rfl, h⟩, ho⟩
theorem OwnB.mod_lt {B g : Nat} {w w' : World} {v : Value} {l : List Nat} (h : OwnB B w v l) (hm : Mod (fun k => k = g) w w') (hg : g < B) : OwnB B w' v l := own_mod_lt h hm hg
theorem OwnB.safe {B : Nat} {G : Nat → Prop} {w : World} {v : Value} {l : List Nat} (h : OwnB B w v l) (hG : ∀ k, G k → k < B) : Safe G w v (u8s l) :=
  ⟨h.byt, fun k hk hg => by have := (World.ownsRow.lt h k hk).1; have := hG k hg; omega, fun k hk => (World.ownsRow.lt h k hk).2⟩
theorem take_one_more (l : List Nat) {k : Nat} (hk : k < l.length) : l.take (k + 1) = l.take k ++ [l[k]] := List.take_succ_eq_append_getElem hk

set_option maxRecDepth 100000 in
set_option maxHeartbeats 800000 in
theorem RRoom_any {G : Nat → Prop} {val : Value} {D : DSt} {w : World} (h : RD G w val D) : Calls Try.prog 40 #[val] w fun e w' => e = .returned (.int .i64 (D.room : Nat)) ∧ Ext w w' := by
  obtain ⟨⟨v, rfl, hs⟩, ⟨o1, o2, o3⟩⟩ := h
  have hv := hs.sl
  refine calls_keep ?_
  by_cases hbig : D.lim < D.l.length
  · have t0 : decide (D.lim < D.l.length) = true := by simpa using hbig
    have hr := hide_ (show D.room = 0 from by unfold DSt.room; omega)
    clear hbig
    go_enter Try.func40, Try.ntmps40
    go_wp2_with (first
      | (refine w_box _ [v, .int .i64 D.s, .int .i64 D.lim] rfl rfl rfl rfl ?_; intro g2 w1 hg2 hX f2; (try simp only [Act.put, List.setIfInBounds_toArray, List.set_cons_zero, List.set_cons_succ]))
      | (refine w_field Try.stR _ _ _ rfl rfl rfl (by omega) ?_; (try simp only [Act.put, List.setIfInBounds_toArray, List.set_cons_zero, List.set_cons_succ]))
      | (refine w_fload _ rfl rfl rfl f2 rfl (agg_of (by kernel_rfl)) ?_; (try simp only [Act.put, List.setIfInBounds_toArray, List.set_cons_zero, List.set_cons_succ]))
      | (refine b_len _ rfl rfl (v := v) rfl (hv.ext hX) ?_; (try simp only [Act.put, List.setIfInBounds_toArray, List.set_cons_zero, List.set_cons_succ])))
    go_ret
    exact Keep.intro ⟨by rw [hr.out]; rfl, hX⟩
  · have t0 : decide (D.lim < D.l.length) = false := by simpa using hbig
    have hr := hide_ (show ((D.room : Nat) : Int) = (D.lim : Int) - (D.l.length : Int) from by unfold DSt.room; omega)
    go_enter Try.func40, Try.ntmps40
    go_wp2_with (first
      | (refine w_box _ [v, .int .i64 D.s, .int .i64 D.lim] rfl rfl rfl rfl ?_; intro g2 w1 hg2 hX f2; (try simp only [Act.put, List.setIfInBounds_toArray, List.set_cons_zero, List.set_cons_succ]))
      | (refine w_field Try.stR _ _ _ rfl rfl rfl (by omega) ?_; (try simp only [Act.put, List.setIfInBounds_toArray, List.set_cons_zero, List.set_cons_succ]))
      | (refine w_fload _ rfl rfl rfl f2 rfl (agg_of (by kernel_rfl)) ?_; (try simp only [Act.put, List.setIfInBounds_toArray, List.set_cons_zero, List.set_cons_succ]))
      | (refine b_len _ rfl rfl (v := v) rfl (hv.ext hX) ?_; (try simp only [Act.put, List.setIfInBounds_toArray, List.set_cons_zero, List.set_cons_succ])))
    go_ret
    exact Keep.intro ⟨by rw [hr.out]; rfl, hX⟩

set_option maxRecDepth 100000 in
set_option maxHeartbeats 800000 in
theorem RSync_any {G : Nat → Prop} {val : Value} {D : DSt} {w : World} (h : RD G w val D) : Calls Try.prog 20 #[val] w fun e w' => ∃ val', e = .returned val' ∧ Ext w w' ∧ RD G w' val' (D.sync) := by
  obtain ⟨⟨v, rfl, hs⟩, ho⟩ := h
  have hv := hs.sl
  have c1 : v.oneCell' = true := hv.one'
  have Hs := hide_ hs
  clear hs
  refine calls_keep ?_
  go_enter Try.func20, Try.ntmps20
  go_wp2_with (first
    | (refine w_aload Try.stR _ rfl rfl rfl f2 rfl ?_; (try simp only [Act.put, List.setIfInBounds_toArray, List.set_cons_zero, List.set_cons_succ]))
    | (refine w_astore Try.stR (us := [v, .int .i64 D.l.length, .int .i64 D.lim]) _ _ rfl rfl rfl rfl rfl f4 rfl rfl (List.forall_mem_cons.2 ⟨c1, List.forall_mem_cons.2 ⟨rfl, List.forall_mem_cons.2 ⟨rfl, by simp⟩⟩⟩) ?_; intro w5 hm5 f5; have hx5 := hm5.after hX (fun i e => e ▸ hn4); clear f4; (try simp only [Act.put, List.setIfInBounds_toArray, List.set_cons_zero, List.set_cons_succ]))
    | (refine w_box _ [v, .int .i64 D.s, .int .i64 D.lim] rfl rfl rfl rfl ?_; intro g2 w1 hg2 hX f2; (try simp only [Act.put, List.setIfInBounds_toArray, List.set_cons_zero, List.set_cons_succ]))
    | (refine w_alloc Try.stR rfl rfl ?_; intro g4 w2 hg4 hx2 f4; have hne : g4 ≠ g2 := (by have := f2.lt; omega); have hn4 : w.heap.size ≤ g4 := Nat.le_trans hX.size hg4; have hl2 := Nat.lt_of_lt_of_le f2.lt hx2.size; have hl4 := f4.lt; replace f2 := f2.ext hx2; replace hX := hX.trans hx2; clear hg4 hx2; (try simp only [Act.put, List.setIfInBounds_toArray, List.set_cons_zero, List.set_cons_succ]))
    | (refine w_field Try.stR _ _ _ rfl rfl rfl (by omega) ?_; (try simp only [Act.put, List.setIfInBounds_toArray, List.set_cons_zero, List.set_cons_succ]))
    | (refine w_fload _ rfl rfl rfl f2 rfl (agg_of (by kernel_rfl)) ?_; (try simp only [Act.put, List.setIfInBounds_toArray, List.set_cons_zero, List.set_cons_succ]))
    | (refine b_len _ rfl rfl (v := v) rfl (hv.ext hX) ?_; (try simp only [Act.put, List.setIfInBounds_toArray, List.set_cons_zero, List.set_cons_succ]))
    | (refine w_fstore (u := .int .i64 D.l.length) _ _ rfl rfl rfl rfl rfl f2 (by simp) rfl rfl (by kernel_rfl) ?_; intro w3 hm3 f2'; replace f2 : Fs w3 g2 [v, .int .i64 D.l.length, .int .i64 D.lim] := f2'; clear f2'; replace f4 := f4.mod hm3 hne; replace hX := hm3.after hX (fun i e => e ▸ hg2); clear hm3; (try simp only [Act.put, List.setIfInBounds_toArray, List.set_cons_zero, List.set_cons_succ])))
  exact bodyPost_ret (ret_one Try.stR rfl rfl f5 rfl) rfl (Keep.intro ⟨_, rfl, hx5, RD.made (D := D.sync) (Hs.out.ext hx5) ho.sync⟩)

set_option maxRecDepth 100000 in
set_option maxHeartbeats 1600000 in
theorem RLimit_any {G : Nat → Prop} {val : Value} {D : DSt} {w : World} (n : Int) (h : RD G w val D) : Calls Try.prog 16 #[val, .int .i64 n] w fun e w' => ∃ val', e = .returned val' ∧ Ext w w' ∧ RD G w' val' (D.setLim n) := by
  obtain ⟨⟨v, rfl, hs⟩, ho⟩ := h
  have hv := hs.sl
  have c1 : v.oneCell' = true := hv.one'
  have Hs := hide_ hs
  clear hs
  refine calls_keep ?_
  by_cases h1 : n < 0
  · have t0 : decide (n < 0) = true := by simpa using h1
    have t1 : decide (65536 < n) = false := by simp; omega
    have hb := hide_ (show ((bet n 65536 : Nat) : Int) = 0 from by rw [bet_int]; omega)
    clear h1
    go_enter Try.func16, Try.ntmps16
    go_wp2_with (first
      | (refine w_aload Try.stR _ rfl rfl rfl f2 rfl ?_; (try simp only [Act.put, List.setIfInBounds_toArray, List.set_cons_zero, List.set_cons_succ]))
      | (refine w_astore Try.stR (us := [v, .int .i64 D.s, .int .i64 0]) _ _ rfl rfl rfl rfl rfl f4 rfl rfl (List.forall_mem_cons.2 ⟨c1, List.forall_mem_cons.2 ⟨rfl, List.forall_mem_cons.2 ⟨rfl, by simp⟩⟩⟩) ?_; intro w5 hm5 f5; have hx5 := hm5.after hX (fun i e => e ▸ hn4); clear f4; (try simp only [Act.put, List.setIfInBounds_toArray, List.set_cons_zero, List.set_cons_succ]))
      | (refine w_box _ [v, .int .i64 D.s, .int .i64 D.lim] rfl rfl rfl rfl ?_; intro g2 w1 hg2 hX f2; (try simp only [Act.put, List.setIfInBounds_toArray, List.set_cons_zero, List.set_cons_succ]))
      | (refine w_alloc Try.stR rfl rfl ?_; intro g4 w2 hg4 hx2 f4; have hne : g4 ≠ g2 := (by have := f2.lt; omega); have hn4 : w.heap.size ≤ g4 := Nat.le_trans hX.size hg4; have hl2 := Nat.lt_of_lt_of_le f2.lt hx2.size; have hl4 := f4.lt; replace f2 := f2.ext hx2; replace hX := hX.trans hx2; clear hg4 hx2; (try simp only [Act.put, List.setIfInBounds_toArray, List.set_cons_zero, List.set_cons_succ]))
      | (refine w_field Try.stR _ _ _ rfl rfl rfl (by omega) ?_; (try simp only [Act.put, List.setIfInBounds_toArray, List.set_cons_zero, List.set_cons_succ]))
      | (refine w_fload _ rfl rfl rfl f2 rfl (agg_of (by kernel_rfl)) ?_; (try simp only [Act.put, List.setIfInBounds_toArray, List.set_cons_zero, List.set_cons_succ]))
      | (refine w_fstore (u := .int .i64 n) _ _ rfl rfl rfl rfl rfl f2 (by simp) rfl rfl (by kernel_rfl) ?_; intro w3 hm3 f2'; replace f2 : Fs w3 g2 [v, .int .i64 D.s, .int .i64 n] := f2'; clear f2'; replace f4 := f4.mod hm3 hne; replace hX := hm3.after hX (fun i e => e ▸ hg2); clear hm3; (try simp only [Act.put, List.setIfInBounds_toArray, List.set_cons_zero, List.set_cons_succ]))
      | (refine w_fstore (u := .int .i64 0) _ _ rfl rfl rfl rfl rfl f2 (by simp) rfl rfl (by kernel_rfl) ?_; intro w3 hm3 f2'; replace f2 : Fs w3 g2 [v, .int .i64 D.s, .int .i64 0] := f2'; clear f2'; replace f4 := f4.mod hm3 hne; replace hX := hm3.after hX (fun i e => e ▸ hg2); clear hm3; (try simp only [Act.put, List.setIfInBounds_toArray, List.set_cons_zero, List.set_cons_succ])))
    have hf : Fs w5 g4 [v, .int .i64 (D.setLim n).s, .int .i64 (D.setLim n).lim] := by
      show Fs w5 g4 [v, .int .i64 D.s, .int .i64 ((bet n 65536 : Nat) : Int)]
      rw [hb.out]; exact f5
    exact bodyPost_ret (ret_one Try.stR rfl rfl hf rfl) rfl (Keep.intro ⟨_, rfl, hx5, RD.made (D := D.setLim n) (Hs.out.ext hx5) (ho.setLim n)⟩)
  by_cases h2 : 65536 < n
  · have t0 : decide (n < 0) = false := by simpa using h1
    have t1 : decide (65536 < n) = true := by simpa using h2
    have hb := hide_ (show ((bet n 65536 : Nat) : Int) = 65536 from by rw [bet_int]; omega)
    clear h1 h2
    go_enter Try.func16, Try.ntmps16
    go_wp2_with (first
      | (refine w_aload Try.stR _ rfl rfl rfl f2 rfl ?_; (try simp only [Act.put, List.setIfInBounds_toArray, List.set_cons_zero, List.set_cons_succ]))
      | (refine w_astore Try.stR (us := [v, .int .i64 D.s, .int .i64 65536]) _ _ rfl rfl rfl rfl rfl f4 rfl rfl (List.forall_mem_cons.2 ⟨c1, List.forall_mem_cons.2 ⟨rfl, List.forall_mem_cons.2 ⟨rfl, by simp⟩⟩⟩) ?_; intro w5 hm5 f5; have hx5 := hm5.after hX (fun i e => e ▸ hn4); clear f4; (try simp only [Act.put, List.setIfInBounds_toArray, List.set_cons_zero, List.set_cons_succ]))
      | (refine w_box _ [v, .int .i64 D.s, .int .i64 D.lim] rfl rfl rfl rfl ?_; intro g2 w1 hg2 hX f2; (try simp only [Act.put, List.setIfInBounds_toArray, List.set_cons_zero, List.set_cons_succ]))
      | (refine w_alloc Try.stR rfl rfl ?_; intro g4 w2 hg4 hx2 f4; have hne : g4 ≠ g2 := (by have := f2.lt; omega); have hn4 : w.heap.size ≤ g4 := Nat.le_trans hX.size hg4; have hl2 := Nat.lt_of_lt_of_le f2.lt hx2.size; have hl4 := f4.lt; replace f2 := f2.ext hx2; replace hX := hX.trans hx2; clear hg4 hx2; (try simp only [Act.put, List.setIfInBounds_toArray, List.set_cons_zero, List.set_cons_succ]))
      | (refine w_field Try.stR _ _ _ rfl rfl rfl (by omega) ?_; (try simp only [Act.put, List.setIfInBounds_toArray, List.set_cons_zero, List.set_cons_succ]))
      | (refine w_fload _ rfl rfl rfl f2 rfl (agg_of (by kernel_rfl)) ?_; (try simp only [Act.put, List.setIfInBounds_toArray, List.set_cons_zero, List.set_cons_succ]))
      | (refine w_fstore (u := .int .i64 n) _ _ rfl rfl rfl rfl rfl f2 (by simp) rfl rfl (by kernel_rfl) ?_; intro w3 hm3 f2'; replace f2 : Fs w3 g2 [v, .int .i64 D.s, .int .i64 n] := f2'; clear f2'; replace f4 := f4.mod hm3 hne; replace hX := hm3.after hX (fun i e => e ▸ hg2); clear hm3; (try simp only [Act.put, List.setIfInBounds_toArray, List.set_cons_zero, List.set_cons_succ]))
      | (refine w_fstore (u := .int .i64 65536) _ _ rfl rfl rfl rfl rfl f2 (by simp) rfl rfl (by kernel_rfl) ?_; intro w3 hm3 f2'; replace f2 : Fs w3 g2 [v, .int .i64 D.s, .int .i64 65536] := f2'; clear f2'; replace f4 := f4.mod hm3 hne; replace hX := hm3.after hX (fun i e => e ▸ hg2); clear hm3; (try simp only [Act.put, List.setIfInBounds_toArray, List.set_cons_zero, List.set_cons_succ])))
    have hf : Fs w5 g4 [v, .int .i64 (D.setLim n).s, .int .i64 (D.setLim n).lim] := by
      show Fs w5 g4 [v, .int .i64 D.s, .int .i64 ((bet n 65536 : Nat) : Int)]
      rw [hb.out]; exact f5
    exact bodyPost_ret (ret_one Try.stR rfl rfl hf rfl) rfl (Keep.intro ⟨_, rfl, hx5, RD.made (D := D.setLim n) (Hs.out.ext hx5) (ho.setLim n)⟩)
  · have t0 : decide (n < 0) = false := by simpa using h1
    have t1 : decide (65536 < n) = false := by simpa using h2
    have hb := hide_ (show ((bet n 65536 : Nat) : Int) = n from by rw [bet_int]; omega)
    clear h1 h2
    go_enter Try.func16, Try.ntmps16
    go_wp2_with (first
      | (refine w_aload Try.stR _ rfl rfl rfl f2 rfl ?_; (try simp only [Act.put, List.setIfInBounds_toArray, List.set_cons_zero, List.set_cons_succ]))
      | (refine w_astore Try.stR (us := [v, .int .i64 D.s, .int .i64 n]) _ _ rfl rfl rfl rfl rfl f4 rfl rfl (List.forall_mem_cons.2 ⟨c1, List.forall_mem_cons.2 ⟨rfl, List.forall_mem_cons.2 ⟨rfl, by simp⟩⟩⟩) ?_; intro w5 hm5 f5; have hx5 := hm5.after hX (fun i e => e ▸ hn4); clear f4; (try simp only [Act.put, List.setIfInBounds_toArray, List.set_cons_zero, List.set_cons_succ]))
      | (refine w_box _ [v, .int .i64 D.s, .int .i64 D.lim] rfl rfl rfl rfl ?_; intro g2 w1 hg2 hX f2; (try simp only [Act.put, List.setIfInBounds_toArray, List.set_cons_zero, List.set_cons_succ]))
      | (refine w_alloc Try.stR rfl rfl ?_; intro g4 w2 hg4 hx2 f4; have hne : g4 ≠ g2 := (by have := f2.lt; omega); have hn4 : w.heap.size ≤ g4 := Nat.le_trans hX.size hg4; have hl2 := Nat.lt_of_lt_of_le f2.lt hx2.size; have hl4 := f4.lt; replace f2 := f2.ext hx2; replace hX := hX.trans hx2; clear hg4 hx2; (try simp only [Act.put, List.setIfInBounds_toArray, List.set_cons_zero, List.set_cons_succ]))
      | (refine w_field Try.stR _ _ _ rfl rfl rfl (by omega) ?_; (try simp only [Act.put, List.setIfInBounds_toArray, List.set_cons_zero, List.set_cons_succ]))
      | (refine w_fload _ rfl rfl rfl f2 rfl (agg_of (by kernel_rfl)) ?_; (try simp only [Act.put, List.setIfInBounds_toArray, List.set_cons_zero, List.set_cons_succ]))
      | (refine w_fstore (u := .int .i64 n) _ _ rfl rfl rfl rfl rfl f2 (by simp) rfl rfl (by kernel_rfl) ?_; intro w3 hm3 f2'; replace f2 : Fs w3 g2 [v, .int .i64 D.s, .int .i64 n] := f2'; clear f2'; replace f4 := f4.mod hm3 hne; replace hX := hm3.after hX (fun i e => e ▸ hg2); clear hm3; (try simp only [Act.put, List.setIfInBounds_toArray, List.set_cons_zero, List.set_cons_succ])))
    have hf : Fs w5 g4 [v, .int .i64 (D.setLim n).s, .int .i64 (D.setLim n).lim] := by
      show Fs w5 g4 [v, .int .i64 D.s, .int .i64 ((bet n 65536 : Nat) : Int)]
      rw [hb.out]; exact f5
    exact bodyPost_ret (ret_one Try.stR rfl rfl hf rfl) rfl (Keep.intro ⟨_, rfl, hx5, RD.made (D := D.setLim n) (Hs.out.ext hx5) (ho.setLim n)⟩)
set_option maxRecDepth 100000 in
set_option maxHeartbeats 1600000 in
theorem RAppend_any {G : Nat → Prop} {val b : Value} {D : DSt} {w : World} {l : List Nat} (hG : ∀ k, G k → k < w.heap.size) (hb : Byt w b l) (h : RD G w val D) : Calls Try.prog 24 #[val, b] w fun e w' => ∃ val', e = .returned (.tuple #[val', .int .i64 (D.err l : Nat)]) ∧ Ext w w' ∧ RD G w' val' (D.app l) := by
  obtain ⟨⟨v, rfl, hs⟩, ho⟩ := h
  have hv := hs.sl
  have c1 : v.oneCell' = true := hv.one'
  have Hs := hide_ hs
  clear hs
  refine calls_keep ?_
  by_cases hfit : l.length ≤ D.room
  · have E1 := hide_ (show D.err l = 0 from if_pos hfit)
    have E2 := hide_ (show D.app l = { D with l := D.l ++ l } from if_pos hfit)
    have t0 : decide (D.room < l.length) = false := by simp; omega
    have hok := hide_ (ho.app l)
    rw [E2.out] at hok
    have n1 : ([] : List Nat).length + D.l.length ≤ 140737488355328 := by have := ho.len; simp; omega
    have n2 : D.l.length + l.length ≤ 140737488355328 := by have := ho.len; have := ho.lim; unfold DSt.room at hfit; omega
    clear hfit
    go_enter Try.func24, Try.ntmps24
    go_wp2_with (first
      | (go_at_call 40; refine (RRoom_any (RD.made (D := D) (G := G) (Hs.out.ext hX) ho)).mono ?_; rintro e wr ⟨rfl, hxr⟩; replace f2 := f2.ext hxr; replace f4 := f4.ext hxr; replace hX := hX.trans hxr; (try simp only [Act.put, List.setIfInBounds_toArray, List.set_cons_zero, List.set_cons_succ]))
      | (refine w_aload Try.stR _ rfl rfl rfl f2 rfl ?_; (try simp only [Act.put, List.setIfInBounds_toArray, List.set_cons_zero, List.set_cons_succ]))
      | (refine w_astore Try.stR (us := [v3, .int .i64 D.s, .int .i64 D.lim]) _ _ rfl rfl rfl rfl rfl f4 rfl rfl (List.forall_mem_cons.2 ⟨c3, List.forall_mem_cons.2 ⟨rfl, List.forall_mem_cons.2 ⟨rfl, by simp⟩⟩⟩) ?_; intro w5 hm5 f5; have hx5 := hm5.after hX (fun i e => e ▸ hn4); have o3 := o2.mod_lt hm5 l4; clear f4; (try simp only [Act.put, List.setIfInBounds_toArray, List.set_cons_zero, List.set_cons_succ]))
      | (refine w_box _ [v, .int .i64 D.s, .int .i64 D.lim] rfl rfl rfl rfl ?_; intro g2 w1 hg2 hX f2; (try simp only [Act.put, List.setIfInBounds_toArray, List.set_cons_zero, List.set_cons_succ]))
      | (refine w_alloc Try.stR rfl rfl ?_; intro g4 w2 hg4 hx2 f4; have hne : g4 ≠ g2 := (by have := f2.lt; omega); have hn4 : w.heap.size ≤ g4 := Nat.le_trans hX.size hg4; have hl2 := Nat.lt_of_lt_of_le f2.lt hx2.size; have hl4 := f4.lt; replace f2 := f2.ext hx2; replace hX := hX.trans hx2; clear hg4 hx2; (try simp only [Act.put, List.setIfInBounds_toArray, List.set_cons_zero, List.set_cons_succ]))
      | (refine w_field Try.stR _ _ _ rfl rfl rfl (by omega) ?_; (try simp only [Act.put, List.setIfInBounds_toArray, List.set_cons_zero, List.set_cons_succ]))
      | (refine w_fload _ rfl rfl rfl f2 rfl (agg_of (by kernel_rfl)) ?_; (try simp only [Act.put, List.setIfInBounds_toArray, List.set_cons_zero, List.set_cons_succ]))
      | (refine b_len _ rfl rfl (v := b) rfl (hb.ext hX) ?_; (try simp only [Act.put, List.setIfInBounds_toArray, List.set_cons_zero, List.set_cons_succ]))
      | (refine w_bempty rfl rfl ?_; intro v1 wn B hB1 hBl hxn o1; have hBw : w.heap.size ≤ B := Nat.le_trans hX.size hB1; have l2 : g2 < B := Nat.lt_of_lt_of_le f2.lt hB1; have l4 : g4 < B := Nat.lt_of_lt_of_le f4.lt hB1; replace f2 := f2.ext hxn; replace f4 := f4.ext hxn; replace hX := hX.trans hxn; clear hxn hB1; (try simp only [Act.put, List.setIfInBounds_toArray, List.set_cons_zero, List.set_cons_succ]))
      | (refine appb (.tmp 13) (.tmp 15) rfl rfl rfl rfl o1 (hv.ext hX) n1 hBl ?_; intro v2 wa o2 hba hga; rw [List.nil_append] at o2; replace f2 := f2.below hba l2; replace f4 := f4.below hba l4; replace hX := hX.trans' (hba.mono hBw); have hBl2 := Nat.le_trans hBl hba.size; clear o1 hba hga; (try simp only [Act.put, List.setIfInBounds_toArray, List.set_cons_zero, List.set_cons_succ]))
      | (refine appb (.tmp 17) (.tmp 18) rfl rfl rfl rfl o2 (hb.ext hX) n2 hBl2 ?_; intro v3 wa o2 hba hga; replace f2 := f2.below hba l2; replace f4 := f4.below hba l4; replace hX := hX.trans' (hba.mono hBw); have c3 : v3.oneCell' = true := o2.byt.one'; clear hba hga; (try simp only [Act.put, List.setIfInBounds_toArray, List.set_cons_zero, List.set_cons_succ]))
      | (refine w_fstore (u := v3) _ _ rfl rfl rfl rfl rfl f2 (by simp) (oneCell_cells c3) c3 (by kernel_rfl) ?_; intro w3 hm3 f2'; replace f2 : Fs w3 g2 [v3, .int .i64 D.s, .int .i64 D.lim] := f2'; clear f2'; replace f4 := f4.mod hm3 hne; replace hX := hm3.after hX (fun i e => e ▸ hg2); replace o2 := o2.mod_lt hm3 l2; clear hm3; (try simp only [Act.put, List.setIfInBounds_toArray, List.set_cons_zero, List.set_cons_succ])))
    exact bodyPost_ret (ret_two Try.stR rfl rfl rfl f5 rfl) rfl (Keep.intro ⟨_, by rw [E1.out]; rfl, hx5, by rw [E2.out]; exact RD.made (D := { D with l := D.l ++ l }) (o3.safe fun k hk => Nat.lt_of_lt_of_le (hG k hk) hBw) hok.out⟩)
  · have E1 := hide_ (show D.err l = 41 from if_neg hfit)
    have E2 := hide_ (show D.app l = D from if_neg hfit)
    have t0 : decide (D.room < l.length) = true := by simp; omega
    clear hfit
    go_enter Try.func24, Try.ntmps24
    go_wp2_with (first
      | (go_at_call 40; refine (RRoom_any (RD.made (D := D) (G := G) (Hs.out.ext hX) ho)).mono ?_; rintro e wr ⟨rfl, hxr⟩; replace f2 := f2.ext hxr; replace f4 := f4.ext hxr; replace hX := hX.trans hxr; (try simp only [Act.put, List.setIfInBounds_toArray, List.set_cons_zero, List.set_cons_succ]))
      | (refine w_aload Try.stR _ rfl rfl rfl f2 rfl ?_; (try simp only [Act.put, List.setIfInBounds_toArray, List.set_cons_zero, List.set_cons_succ]))
      | (refine w_astore Try.stR (us := [v, .int .i64 D.s, .int .i64 D.lim]) _ _ rfl rfl rfl rfl rfl f4 rfl rfl (List.forall_mem_cons.2 ⟨c1, List.forall_mem_cons.2 ⟨rfl, List.forall_mem_cons.2 ⟨rfl, by simp⟩⟩⟩) ?_; intro w5 hm5 f5; have hx5 := hm5.after hX (fun i e => e ▸ hn4); clear f4; (try simp only [Act.put, List.setIfInBounds_toArray, List.set_cons_zero, List.set_cons_succ]))
      | (refine w_box _ [v, .int .i64 D.s, .int .i64 D.lim] rfl rfl rfl rfl ?_; intro g2 w1 hg2 hX f2; (try simp only [Act.put, List.setIfInBounds_toArray, List.set_cons_zero, List.set_cons_succ]))
      | (refine w_alloc Try.stR rfl rfl ?_; intro g4 w2 hg4 hx2 f4; have hne : g4 ≠ g2 := (by have := f2.lt; omega); have hn4 : w.heap.size ≤ g4 := Nat.le_trans hX.size hg4; have hl2 := Nat.lt_of_lt_of_le f2.lt hx2.size; have hl4 := f4.lt; replace f2 := f2.ext hx2; replace hX := hX.trans hx2; clear hg4 hx2; (try simp only [Act.put, List.setIfInBounds_toArray, List.set_cons_zero, List.set_cons_succ]))
      | (refine w_field Try.stR _ _ _ rfl rfl rfl (by omega) ?_; (try simp only [Act.put, List.setIfInBounds_toArray, List.set_cons_zero, List.set_cons_succ]))
      | (refine w_fload _ rfl rfl rfl f2 rfl (agg_of (by kernel_rfl)) ?_; (try simp only [Act.put, List.setIfInBounds_toArray, List.set_cons_zero, List.set_cons_succ]))
      | (refine b_len _ rfl rfl (v := b) rfl (hb.ext hX) ?_; (try simp only [Act.put, List.setIfInBounds_toArray, List.set_cons_zero, List.set_cons_succ])))
    exact bodyPost_ret (ret_two Try.stR rfl rfl rfl f5 rfl) rfl (Keep.intro ⟨_, by rw [E1.out]; rfl, hx5, by rw [E2.out]; exact RD.made (D := D) (Hs.out.ext hx5) ho⟩)


end Go.Proofs.Ytfhecifgpjbeiaa
