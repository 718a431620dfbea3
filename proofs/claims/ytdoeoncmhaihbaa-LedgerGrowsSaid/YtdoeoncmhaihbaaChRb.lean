/- The document's chain: Take. -/
import Derived.Test.YtdoeoncmhaihbaaChR
namespace Go.Proofs.Ytdoeoncmhaihbaa
set_option maxRecDepth 100000
open Go.RowKit Go.ChangeShapes Go.WideShapes Go.ChangeAt

theorem off2 {S : Nat → Prop} {n m g k : Nat} (h1 : n ≤ g) (h2 : g < m) (hs : (S k ∧ k < n) ∨ m ≤ k) : ¬ k = g := fun e => by
  rcases hs with hs | hs
  · have := hs.2; omega
  · omega
theorem add_wrong {t : TrS} {b : BlkD} (h : ¬ b.Right) : (TrS.add t b).2.2 = false := by
  have h0 : b.name = 0 := if_neg h
  obtain ⟨K, V⟩ := t
  rw [add_c1 (.inl h0)]
set_option maxRecDepth 100000 in
set_option maxHeartbeats 6400000 in
theorem refCTake_kp {Wr : WB} {w : World} {S : Nat → Prop} {vk vw dv u : Value} {ds : List Int} {deep slot : Int} {K V : List BlkD} {b : BlkD} (er0 : Ext Wr.w w) (hKP0 : KP Wr S w vk K) (hVP0 : KP Wr S w vw V) (hV0 : V.length ≤ 16) (hd0 : Ints w dv ds) (hD0 : DrOk ds) (hu0 : Wr.Has u b) (hraw0 : b.Raw) :
    Calls Try.prog 33 #[.agg (cRow vk vw dv deep slot).toArray, .agg (bRow b u).toArray] w fun e w' => ∃ vk' vw' v', e = .returned (.tuple #[.agg (cRow vk' vw' dv deep slot).toArray, v', .int .i64 (tkE ds slot ⟨K, V⟩ b)]) ∧
      KP Wr (fun k => S k ∨ w.heap.size ≤ k) w' vk' (tkT ds slot ⟨K, V⟩ b).known ∧ KP Wr (fun k => S k ∨ w.heap.size ≤ k) w' vw' (tkT ds slot ⟨K, V⟩ b).wait ∧ OwnI w.heap.size w' v' (tkL ds slot ⟨K, V⟩ b) ∧ Ext w w' := by
  refine calls_keep ?_
  have er := hide_ er0
  have hKP := hide_ (hKP0.mono (S' := fun k => S k ∧ k < w.heap.size) fun k hk hs => ⟨hs, hk⟩)
  have hVP := hide_ (hVP0.mono (S' := fun k => S k ∧ k < w.heap.size) fun k hk hs => ⟨hs, hk⟩)
  have hV16 := hide_ hV0
  have hd := hide_ hd0
  have hD := hide_ hD0
  have hu := hide_ hu0
  have hraw := hide_ hraw0
  have hone := hide_ (crow_one (deep := deep) (slot := slot) hKP0.one hVP0.one (Sl.one' hd0))
  have hdone := hide_ (Sl.one' hd0)
  have same := hide_ (fun (w' : World) (hX : Ext w w') => (show KP Wr (fun k => S k ∨ w.heap.size ≤ k) w' vk K ∧ KP Wr (fun k => S k ∨ w.heap.size ≤ k) w' vw V from ⟨(hKP0.ext hX).mono fun _ _ hs => .inl hs, (hVP0.ext hX).mono fun _ _ hs => .inl hs⟩))
  clear er0 hKP0 hVP0 hV0 hd0 hD0 hu0 hraw0
  by_cases hr : b.Right
  rotate_left
  · have hdec := hide_ (decide_eq_false hr)
    obtain ⟨e1, e2, e3⟩ := tk_no (ds := ds) (slot := slot) (t := ⟨K, V⟩) (b := b) (by unfold tkOk; rw [add_wrong hr, Bool.and_false])
    rw [e1, e2, e3]
    clear e1 e2 e3 hr
    go_enter Try.func33, Try.ntmps33
    go_wp2_with ((first
      | go_big_skip
      | ((with_reducible refine at_box ?_); refine w_box (.tmp 0) (cRow vk vw dv deep slot) rfl rfl rfl rfl ?_; intro g2 w1 hg2 hX f2)
      | ((with_reducible refine at_box ?_); refine w_box (.tmp 1) (bRow b u) rfl rfl rfl rfl ?_; intro g3 w2 hg3 hx2 f3; replace f2 := f2.ext hx2; replace hX := hX.trans hx2; clear hx2 hg3)
      | ((with_reducible refine at_alloc ?_); refine w_allocN Try.stDocC rfl rfl ?_; intro g4 w2 hg4 hx2 f4; have hg24 := hide_ (show ¬ g4 = g2 from fun e => by have := f2.lt; omega); replace f2 := f2.ext hx2; replace f3 := f3.ext hx2; replace hg4 := Nat.le_trans hX.size hg4; replace hX := hX.trans hx2; clear hx2)
      | ((with_reducible refine at_load ?_); (try refine w_yes _ _ _ rfl rfl rfl ?_); refine w_aload Try.stBlk (.tmp 3) rfl rfl rfl f3 rfl ?_)
      | (go_at_call 43; refine (refBRight_any (b := b) (hu.out.1.ext TxR.stays (er.out.trans hX)) hraw.out.par).mono ?_; rintro e w5 ⟨rfl, hx⟩; rw [hdec.out]; replace f2 := f2.ext hx; replace f3 := f3.ext hx; replace f4 := f4.ext hx; replace hX := hX.trans hx; clear hx)
      | ((with_reducible refine at_load ?_); refine w_loadN Try.stDocC (.tmp 2) (cRow vk vw dv deep slot) rfl rfl rfl f2 rfl self_at ?_)
      | ((with_reducible refine at_store ?_); refine w_astoreN Try.stDocC (.tmp 4) _ (us := cRow vk vw dv deep slot) rfl rfl rfl rfl rfl f4 rfl rfl hone.out ?_; intro w3 hm3 f9; replace f4 : Fs w3 g4 (cRow vk vw dv deep slot) := f9; replace hX := hm3.after hX (fun i hi => by subst hi; exact hg4); clear hm3 f9)
      | fail) <;> (try simp only [Act.put, List.setIfInBounds_toArray, List.set_cons_zero, List.set_cons_succ]))
    exact bodyPost_ret (ret_threeN Try.stDocC rfl rfl rfl rfl f4 rfl) rfl (Keep.intro ⟨vk, vw, _, rfl, (same.out _ hX).1, (same.out _ hX).2, OwnI.nil _ _, hX⟩)
  have hdec := hide_ (decide_eq_true hr)
  cases t1 : decide (slot < b.slot)
  rotate_left
  · obtain ⟨e1, e2, e3⟩ := tk_no (ds := ds) (slot := slot) (t := ⟨K, V⟩) (b := b) (by unfold tkOk; rw [t1]; rfl)
    rw [e1, e2, e3]
    clear e1 e2 e3 hr
    go_enter Try.func33, Try.ntmps33
    go_wp2_with ((first
      | go_big_skip
      | ((with_reducible refine at_box ?_); refine w_box (.tmp 0) (cRow vk vw dv deep slot) rfl rfl rfl rfl ?_; intro g2 w1 hg2 hX f2)
      | ((with_reducible refine at_box ?_); refine w_box (.tmp 1) (bRow b u) rfl rfl rfl rfl ?_; intro g3 w2 hg3 hx2 f3; replace f2 := f2.ext hx2; replace hX := hX.trans hx2; clear hx2 hg3)
      | ((with_reducible refine at_alloc ?_); refine w_allocN Try.stDocC rfl rfl ?_; intro g4 w2 hg4 hx2 f4; have hg24 := hide_ (show ¬ g4 = g2 from fun e => by have := f2.lt; omega); replace f2 := f2.ext hx2; replace f3 := f3.ext hx2; replace hg4 := Nat.le_trans hX.size hg4; replace hX := hX.trans hx2; clear hx2)
      | ((with_reducible refine at_load ?_); (try refine w_yes _ _ _ rfl rfl rfl ?_); refine w_aload Try.stBlk (.tmp 3) rfl rfl rfl f3 rfl ?_)
      | (go_at_call 43; refine (refBRight_any (b := b) (hu.out.1.ext TxR.stays (er.out.trans hX)) hraw.out.par).mono ?_; rintro e w5 ⟨rfl, hx⟩; rw [hdec.out]; replace f2 := f2.ext hx; replace f3 := f3.ext hx; replace f4 := f4.ext hx; replace hX := hX.trans hx; clear hx)
      | ((with_reducible refine at_field ?_); (try refine w_yes _ _ _ rfl rfl rfl ?_); refine w_field Try.stBlk (.tmp 3) _ _ rfl rfl rfl (by omega) ?_)
      | ((with_reducible refine at_field ?_); (try refine w_yes _ _ _ rfl rfl rfl ?_); refine w_fieldN (i := 3) (off := 4) (by kernel_rfl) (.tmp 2) _ rfl rfl rfl ?_)
      | ((with_reducible refine at_load ?_); refine w_loadN Try.stDocC (.tmp 2) (cRow vk vw dv deep slot) rfl rfl rfl f2 rfl self_at ?_)
      | ((with_reducible refine at_load ?_); (try refine w_yes _ _ _ rfl rfl rfl ?_); refine w_fload _ rfl rfl rfl f3 rfl (agg_of (by kernel_rfl)) ?_)
      | ((with_reducible refine at_load ?_); (try refine w_yes _ _ _ rfl rfl rfl ?_); refine w_fload _ rfl rfl rfl f2 rfl (agg_of (by kernel_rfl)) ?_)
      | ((with_reducible refine at_store ?_); refine w_astoreN Try.stDocC (.tmp 4) _ (us := cRow vk vw dv deep slot) rfl rfl rfl rfl rfl f4 rfl rfl hone.out ?_; intro w3 hm3 f9; replace f4 : Fs w3 g4 (cRow vk vw dv deep slot) := f9; replace hX := hm3.after hX (fun i hi => by subst hi; exact hg4); clear hm3 f9)
      | fail) <;> (try simp only [Act.put, List.setIfInBounds_toArray, List.set_cons_zero, List.set_cons_succ]))
    exact bodyPost_ret (ret_threeN Try.stDocC rfl rfl rfl rfl f4 rfl) rfl (Keep.intro ⟨vk, vw, _, rfl, (same.out _ hX).1, (same.out _ hX).2, OwnI.nil _ _, hX⟩)
  obtain ⟨qw, hq0⟩ : ∃ qw, win ds b.slot b.miner = qw := ⟨_, rfl⟩
  have hq := hide_ hq0
  cases qw
  · obtain ⟨e1, e2, e3⟩ := tk_no (ds := ds) (slot := slot) (t := ⟨K, V⟩) (b := b) (by unfold tkOk; rw [t1, hq0]; rfl)
    rw [e1, e2, e3]
    clear e1 e2 e3 hr hq0
    go_enter Try.func33, Try.ntmps33
    go_wp2_with ((first
      | go_big_skip
      | ((with_reducible refine at_box ?_); refine w_box (.tmp 0) (cRow vk vw dv deep slot) rfl rfl rfl rfl ?_; intro g2 w1 hg2 hX f2)
      | ((with_reducible refine at_box ?_); refine w_box (.tmp 1) (bRow b u) rfl rfl rfl rfl ?_; intro g3 w2 hg3 hx2 f3; replace f2 := f2.ext hx2; replace hX := hX.trans hx2; clear hx2 hg3)
      | ((with_reducible refine at_alloc ?_); refine w_allocN Try.stDocC rfl rfl ?_; intro g4 w2 hg4 hx2 f4; have hg24 := hide_ (show ¬ g4 = g2 from fun e => by have := f2.lt; omega); replace f2 := f2.ext hx2; replace f3 := f3.ext hx2; replace hg4 := Nat.le_trans hX.size hg4; replace hX := hX.trans hx2; clear hx2)
      | ((with_reducible refine at_load ?_); (try refine w_yes _ _ _ rfl rfl rfl ?_); refine w_aload Try.stBlk (.tmp 3) rfl rfl rfl f3 rfl ?_)
      | (go_at_call 43; refine (refBRight_any (b := b) (hu.out.1.ext TxR.stays (er.out.trans hX)) hraw.out.par).mono ?_; rintro e w5 ⟨rfl, hx⟩; rw [hdec.out]; replace f2 := f2.ext hx; replace f3 := f3.ext hx; replace f4 := f4.ext hx; replace hX := hX.trans hx; clear hx)
      | (go_at_call 44; refine (refWins_any (s := b.slot) (n := b.miner) hD.out (hd.out.ext hX)).mono ?_; rintro e w5 ⟨rfl, hx⟩; rw [hq.out]; replace f2 := f2.ext hx; replace f3 := f3.ext hx; replace f4 := f4.ext hx; replace hX := hX.trans hx; clear hx)
      | ((with_reducible refine at_field ?_); (try refine w_yes _ _ _ rfl rfl rfl ?_); refine w_field Try.stBlk (.tmp 3) _ _ rfl rfl rfl (by omega) ?_)
      | ((with_reducible refine at_field ?_); (try refine w_yes _ _ _ rfl rfl rfl ?_); refine w_fieldN (i := 3) (off := 4) (by kernel_rfl) (.tmp 2) _ rfl rfl rfl ?_)
      | ((with_reducible refine at_field ?_); (try refine w_yes _ _ _ rfl rfl rfl ?_); refine w_fieldN (i := 1) (off := 2) (by kernel_rfl) (.tmp 2) _ rfl rfl rfl ?_)
      | ((with_reducible refine at_load ?_); refine w_loadN Try.stDocC (.tmp 2) (cRow vk vw dv deep slot) rfl rfl rfl f2 rfl self_at ?_)
      | ((with_reducible refine at_load ?_); (try refine w_yes _ _ _ rfl rfl rfl ?_); refine w_fload _ rfl rfl rfl f3 rfl (agg_of (by kernel_rfl)) ?_)
      | ((with_reducible refine at_load ?_); (try refine w_yes _ _ _ rfl rfl rfl ?_); refine w_fload _ rfl rfl rfl f2 rfl (agg_of (by kernel_rfl)) ?_)
      | ((with_reducible refine at_store ?_); refine w_astoreN Try.stDocC (.tmp 4) _ (us := cRow vk vw dv deep slot) rfl rfl rfl rfl rfl f4 rfl rfl hone.out ?_; intro w3 hm3 f9; replace f4 : Fs w3 g4 (cRow vk vw dv deep slot) := f9; replace hX := hm3.after hX (fun i hi => by subst hi; exact hg4); clear hm3 f9)
      | fail) <;> (try simp only [Act.put, List.setIfInBounds_toArray, List.set_cons_zero, List.set_cons_succ]))
    exact bodyPost_ret (ret_threeN Try.stDocC rfl rfl rfl rfl f4 rfl) rfl (Keep.intro ⟨vk, vw, _, rfl, (same.out _ hX).1, (same.out _ hX).2, OwnI.nil _ _, hX⟩)
  obtain ⟨⟨⟨K2, V2⟩, Ln, ok⟩, hR0⟩ : ∃ R, TrS.add ⟨K, V⟩ b = R := ⟨_, rfl⟩
  have hR := hide_ hR0
  have hok : tkOk ds slot ⟨K, V⟩ b = ok := by unfold tkOk; rw [t1, hq0, hR0]; rfl
  cases ok
  · obtain ⟨e1, e2, e3⟩ := tk_no hok
    rw [e1, e2, e3]
    clear e1 e2 e3 hr hq0 hR0 hok
    go_enter Try.func33, Try.ntmps33
    go_wp2_with ((first
      | go_big_skip
      | ((with_reducible refine at_box ?_); refine w_box (.tmp 0) (cRow vk vw dv deep slot) rfl rfl rfl rfl ?_; intro g2 w1 hg2 hX f2)
      | ((with_reducible refine at_box ?_); refine w_box (.tmp 1) (bRow b u) rfl rfl rfl rfl ?_; intro g3 w2 hg3 hx2 f3; replace f2 := f2.ext hx2; replace hX := hX.trans hx2; clear hx2 hg3)
      | ((with_reducible refine at_alloc ?_); refine w_allocN Try.stDocC rfl rfl ?_; intro g4 w2 hg4 hx2 f4; have hg24 := hide_ (show ¬ g4 = g2 from fun e => by have := f2.lt; omega); replace f2 := f2.ext hx2; replace f3 := f3.ext hx2; replace hg4 := Nat.le_trans hX.size hg4; replace hX := hX.trans hx2; clear hx2)
      | ((with_reducible refine at_alloc ?_); refine w_allocN Try.stDocT rfl rfl ?_; intro g7 w6 hg7 hx2 f7)
      | ((with_reducible refine at_load ?_); (try refine w_yes _ _ _ rfl rfl rfl ?_); refine w_aload Try.stBlk (.tmp 3) rfl rfl rfl f3 rfl ?_)
      | (go_at_call 43; refine (refBRight_any (b := b) (hu.out.1.ext TxR.stays (er.out.trans hX)) hraw.out.par).mono ?_; rintro e w5 ⟨rfl, hx⟩; rw [hdec.out]; replace f2 := f2.ext hx; replace f3 := f3.ext hx; replace f4 := f4.ext hx; replace hX := hX.trans hx; clear hx)
      | (go_at_call 44; refine (refWins_any (s := b.slot) (n := b.miner) hD.out (hd.out.ext hX)).mono ?_; rintro e w5 ⟨rfl, hx⟩; rw [hq.out]; replace f2 := f2.ext hx; replace f3 := f3.ext hx; replace f4 := f4.ext hx; replace hX := hX.trans hx; clear hx)
      | (go_at_call 45; refine (refAdd_kp (b := b) (u := u) (er.out.trans hX) (hKP.out.ext hX) (hVP.out.ext hX) hV16.out hu.out hraw.out hR.out).mono ?_; rintro e wA ⟨vk1, vw1, v1, rfl, k1, k2, o1, hx⟩; have l2 := hide_ f2.lt; have l4 := hide_ f4.lt; have hs5 := hide_ hX.size; have one7 := two_one k1.one k2.one; replace f2 := f2.ext hx; replace f4 := f4.ext hx; replace hX := hX.trans hx; clear hx f3)
      | ((with_reducible refine at_field ?_); (try refine w_yes _ _ _ rfl rfl rfl ?_); refine w_field Try.stBlk (.tmp 3) _ _ rfl rfl rfl (by omega) ?_)
      | ((with_reducible refine at_field ?_); (try refine w_yes _ _ _ rfl rfl rfl ?_); refine w_fieldN (i := 0) (off := 0) (by kernel_rfl) (.tmp 2) _ rfl rfl rfl ?_)
      | ((with_reducible refine at_field ?_); (try refine w_yes _ _ _ rfl rfl rfl ?_); refine w_fieldN (i := 3) (off := 4) (by kernel_rfl) (.tmp 2) _ rfl rfl rfl ?_)
      | ((with_reducible refine at_field ?_); (try refine w_yes _ _ _ rfl rfl rfl ?_); refine w_fieldN (i := 1) (off := 2) (by kernel_rfl) (.tmp 2) _ rfl rfl rfl ?_)
      | ((with_reducible refine at_load ?_); refine w_loadN Try.stDocC (.tmp 2) (cRow vk vw dv deep slot) rfl rfl rfl f2 rfl self_at ?_)
      | ((with_reducible refine at_load ?_); refine w_loadN Try.stDocT _ [vk, vw] rfl rfl rfl f2 rfl (tree_at _ _ _ _ _) ?_)
      | ((with_reducible refine at_load ?_); (try refine w_yes _ _ _ rfl rfl rfl ?_); refine w_fload _ rfl rfl rfl f3 rfl (agg_of (by kernel_rfl)) ?_)
      | ((with_reducible refine at_load ?_); (try refine w_yes _ _ _ rfl rfl rfl ?_); refine w_fload _ rfl rfl rfl f2 rfl (agg_of (by kernel_rfl)) ?_)
      | ((with_reducible refine at_store ?_); refine w_astoreN Try.stDocT (.tmp 7) _ (us := [vk1, vw1]) rfl rfl rfl rfl rfl f7 rfl rfl one7 ?_; intro w7 hm3 f9; replace hx2 := hm3.after hx2 (fun i hi => by subst hi; exact hg7); replace f7 : Fs w7 g7 [vk1, vw1] := f9; have hg72 := hide_ (show ¬ g7 = g2 from fun e => by have := f2.lt; omega); replace k1 := k1.ext hx2; replace k2 := k2.ext hx2; replace o1 := o1.ext hx2; replace f2 := f2.ext hx2; replace f4 := f4.ext hx2; replace hX := hX.trans hx2; clear hx2 hm3 f9 hg7)
      | ((with_reducible refine at_store ?_); refine w_astoreN Try.stDocC (.tmp 4) _ (us := cRow vk vw dv deep slot) rfl rfl rfl rfl rfl f4 rfl rfl hone.out ?_; intro w3 hm3 f9; replace f4 : Fs w3 g4 (cRow vk vw dv deep slot) := f9; replace hX := hm3.after hX (fun i hi => by subst hi; exact hg4); clear hm3 f9)
      | fail) <;> (try simp only [Act.put, List.setIfInBounds_toArray, List.set_cons_zero, List.set_cons_succ]))
    exact bodyPost_ret (ret_threeN Try.stDocC rfl rfl rfl rfl f4 rfl) rfl (Keep.intro ⟨vk, vw, _, rfl, (same.out _ hX).1, (same.out _ hX).2, OwnI.nil _ _, hX⟩)
  · obtain ⟨e1, e2, e3⟩ := tk_yes hok
    rw [hR0] at e1 e2
    rw [e1, e2, e3]
    clear e1 e2 e3 hr hq0 hR0 hok
    go_enter Try.func33, Try.ntmps33
    go_wp2_with ((first
      | go_big_skip
      | ((with_reducible refine at_box ?_); refine w_box (.tmp 0) (cRow vk vw dv deep slot) rfl rfl rfl rfl ?_; intro g2 w1 hg2 hX f2)
      | ((with_reducible refine at_box ?_); refine w_box (.tmp 1) (bRow b u) rfl rfl rfl rfl ?_; intro g3 w2 hg3 hx2 f3; replace f2 := f2.ext hx2; replace hX := hX.trans hx2; clear hx2 hg3)
      | ((with_reducible refine at_alloc ?_); refine w_allocN Try.stDocC rfl rfl ?_; intro g4 w2 hg4 hx2 f4; have hg24 := hide_ (show ¬ g4 = g2 from fun e => by have := f2.lt; omega); replace f2 := f2.ext hx2; replace f3 := f3.ext hx2; replace hg4 := Nat.le_trans hX.size hg4; replace hX := hX.trans hx2; clear hx2)
      | ((with_reducible refine at_alloc ?_); refine w_allocN Try.stDocT rfl rfl ?_; intro g7 w6 hg7 hx2 f7)
      | ((with_reducible refine at_load ?_); (try refine w_yes _ _ _ rfl rfl rfl ?_); refine w_aload Try.stBlk (.tmp 3) rfl rfl rfl f3 rfl ?_)
      | (go_at_call 43; refine (refBRight_any (b := b) (hu.out.1.ext TxR.stays (er.out.trans hX)) hraw.out.par).mono ?_; rintro e w5 ⟨rfl, hx⟩; rw [hdec.out]; replace f2 := f2.ext hx; replace f3 := f3.ext hx; replace f4 := f4.ext hx; replace hX := hX.trans hx; clear hx)
      | (go_at_call 44; refine (refWins_any (s := b.slot) (n := b.miner) hD.out (hd.out.ext hX)).mono ?_; rintro e w5 ⟨rfl, hx⟩; rw [hq.out]; replace f2 := f2.ext hx; replace f3 := f3.ext hx; replace f4 := f4.ext hx; replace hX := hX.trans hx; clear hx)
      | (go_at_call 45; refine (refAdd_kp (b := b) (u := u) (er.out.trans hX) (hKP.out.ext hX) (hVP.out.ext hX) hV16.out hu.out hraw.out hR.out).mono ?_; rintro e wA ⟨vk1, vw1, v1, rfl, k1, k2, o1, hx⟩; have l2 := hide_ f2.lt; have l4 := hide_ f4.lt; have hs5 := hide_ hX.size; have one7 := two_one k1.one k2.one; replace f2 := f2.ext hx; replace f4 := f4.ext hx; replace hX := hX.trans hx; clear hx f3)
      | ((with_reducible refine at_field ?_); (try refine w_yes _ _ _ rfl rfl rfl ?_); refine w_field Try.stBlk (.tmp 3) _ _ rfl rfl rfl (by omega) ?_)
      | ((with_reducible refine at_field ?_); (try refine w_yes _ _ _ rfl rfl rfl ?_); refine w_fieldN (i := 0) (off := 0) (by kernel_rfl) (.tmp 2) _ rfl rfl rfl ?_)
      | ((with_reducible refine at_field ?_); (try refine w_yes _ _ _ rfl rfl rfl ?_); refine w_fieldN (i := 3) (off := 4) (by kernel_rfl) (.tmp 2) _ rfl rfl rfl ?_)
      | ((with_reducible refine at_field ?_); (try refine w_yes _ _ _ rfl rfl rfl ?_); refine w_fieldN (i := 1) (off := 2) (by kernel_rfl) (.tmp 2) _ rfl rfl rfl ?_)
      | ((with_reducible refine at_load ?_); refine w_loadN Try.stDocC (.tmp 2) (cRow vk1 vw1 dv deep slot) rfl rfl rfl f2 rfl self_at ?_)
      | ((with_reducible refine at_load ?_); refine w_loadN Try.stDocT (.tmp 7) [vk1, vw1] rfl rfl rfl f7 rfl self_at ?_)
      | ((with_reducible refine at_load ?_); refine w_loadN Try.stDocT _ [vk, vw] rfl rfl rfl f2 rfl (tree_at _ _ _ _ _) ?_)
      | ((with_reducible refine at_load ?_); (try refine w_yes _ _ _ rfl rfl rfl ?_); refine w_fload _ rfl rfl rfl f3 rfl (agg_of (by kernel_rfl)) ?_)
      | ((with_reducible refine at_load ?_); (try refine w_yes _ _ _ rfl rfl rfl ?_); refine w_fload _ rfl rfl rfl f2 rfl (agg_of (by kernel_rfl)) ?_)
      | ((with_reducible refine at_store ?_); refine w_astoreN Try.stDocT (.tmp 7) _ (us := [vk1, vw1]) rfl rfl rfl rfl rfl f7 rfl rfl one7 ?_; intro w7 hm3 f9; replace hx2 := hm3.after hx2 (fun i hi => by subst hi; exact hg7); replace f7 : Fs w7 g7 [vk1, vw1] := f9; have hg72 := hide_ (show ¬ g7 = g2 from fun e => by have := f2.lt; omega); replace k1 := k1.ext hx2; replace k2 := k2.ext hx2; replace o1 := o1.ext hx2; replace f2 := f2.ext hx2; replace f4 := f4.ext hx2; replace hX := hX.trans hx2; clear hx2 hm3 f9 hg7)
      | ((with_reducible refine at_store ?_); have _t := f7; refine w_astoreF Try.stDocT (.tmp 43) _ (old := [vk, vw]) (us := [vk1, vw1]) (post := [dv, .int .i64 deep, .int .i64 slot]) rfl rfl rfl rfl rfl f2 rfl rfl one7 ?_; intro w8 hm3 f9; replace f2 : Fs w8 g2 (cRow vk1 vw1 dv deep slot) := f9; replace k1 := k1.mod hm3 (fun k _ hs => off2 hg2 l2.out hs); replace k2 := k2.mod hm3 (fun k _ hs => off2 hg2 l2.out hs); replace f4 := f4.mod hm3 hg24.out; have one4 := hide_ (crow_one (deep := deep) (slot := slot) k1.one k2.one hdone.out); replace o1 := own_mod o1 hm3 (fun k hk e => by have h1 := (own_block_lt (g := k) o1 hk).1; have h2 := l2.out; omega); replace hX := hm3.after hX (fun i hi => by subst hi; exact hg2); clear hm3 f9 f7)
      | ((with_reducible refine at_store ?_); refine w_astoreN Try.stDocC (.tmp 4) _ (us := cRow vk1 vw1 dv deep slot) rfl rfl rfl rfl rfl f4 rfl rfl one4.out ?_; intro w9 hm3 f9; replace f4 : Fs w9 g4 (cRow vk1 vw1 dv deep slot) := f9; replace k1 := k1.mod hm3 (fun k _ hs => off2 hg4 l4.out hs); replace k2 := k2.mod hm3 (fun k _ hs => off2 hg4 l4.out hs); replace o1 := own_mod o1 hm3 (fun k hk e => by have h1 := (own_block_lt (g := k) o1 hk).1; have h2 := l4.out; omega); replace hX := hm3.after hX (fun i hi => by subst hi; exact hg4); clear hm3 f9)
      | fail) <;> (try simp only [Act.put, List.setIfInBounds_toArray, List.set_cons_zero, List.set_cons_succ]))
    exact bodyPost_ret (ret_threeN Try.stDocC rfl rfl rfl rfl f4 rfl) rfl (Keep.intro ⟨vk1, vw1, v1, rfl, k1.mono fun k _ hs => hs.elim (fun h => .inl h.1) fun h => .inr (Nat.le_trans hs5.out h), k2.mono fun k _ hs => hs.elim (fun h => .inl h.1) fun h => .inr (Nat.le_trans hs5.out h), own_mono o1 hs5.out, hX⟩)
end Go.Proofs.Ytdoeoncmhaihbaa
