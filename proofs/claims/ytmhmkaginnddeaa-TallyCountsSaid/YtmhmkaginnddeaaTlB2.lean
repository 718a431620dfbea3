/- One more vote. -/
import Derived.Test.YtmhmkaginnddeaaTlB
namespace Go.Proofs.Ytmhmkaginnddeaa
set_option maxRecDepth 100000
open Go.RowKit

def putT (T : Tab) (k v : Int) (i : Nat) (x : Int) : Tab := fun k' v' i' => if k' = k ∧ v' = v ∧ i' = i then some x else T k' v' i'
/-- Behind one more vote. -/
def addT (n : Nat) (T : Tab) (k v j x : Int) : Tab := if CanB k v x ∧ (0 ≤ j ∧ j < (n : Int)) ∧ fat (T k v) j = none then putT T k v j.toNat x else T
def addOk (n : Nat) (T : Tab) (k v j x : Int) : Bool := decide (CanB k v x ∧ (0 ≤ j ∧ j < (n : Int)) ∧ fat (T k v) j = none)

set_option maxRecDepth 100000 in
set_option maxHeartbeats 6400000 in
theorem TAdd_any {X : Nat → Prop} {w : World} {p : Nat} {t : List Int} {T : Tab} {N : Nat} {k v j x : Int} (h0 : Tal X w p t T N) (hN : N ≤ 100000) (hk0 : In64 k) (hv0 : In64 v) (hj0 : In64 j) (hx0 : In64 x) :
    Calls Try.prog 26 #[.pointer (some ⟨p, 0, none⟩), .int .i64 k, .int .i64 v, .int .i64 j, .int .i64 x] w fun e w' => ∃ X', e = .returned (.bool (addOk t.length T k v j x)) ∧ Tal X' w' p t (addT t.length T k v j x) (N + 1) ∧ Upd X X' w w' ∧ (addOk t.length T k v j x = false → Ext w w') := by
  refine calls_keep ?_
  have hT := hide_ h0
  have hk := hide_ hk0
  have hv := hide_ hv0
  have hj := hide_ hj0
  obtain ⟨sv, g, D, m, h⟩ := h0
  have f0 := hide_ h.obj
  have hst := hide_ h.stk
  have hX := Ext.refl w
  have hlen := h.st.2.1
  have hW0 := hide_ h
  have again := hide_ (show Tal X w p t T (N + 1) from ⟨sv, g, D, m, ⟨h.obj, h.stk, h.sto, h.xp, h.own.mono (by omega), h.rnd, fun k v => (h.inn k v).more (by omega), h.sep, h.ok, h.st⟩⟩)
  by_cases hc : CanB k v x
  rotate_left
  · have hcb := hide_ (decide_eq_false hc)
    have ha := hide_ (show addOk t.length T k v j x = false from decide_eq_false fun h => hc h.1)
    have hb := hide_ (show addT t.length T k v j x = T from if_neg fun h => hc h.1)
    clear hc h hk0 hv0 hj0 hx0
    go_enter Try.func26, Try.ntmps26
    go_wp2_with (first
      | go_big_skip
      | (go_at_call 39; refine (canBe_any k v x _).mono ?_; rintro e w4 ⟨rfl, hw4⟩; replace hw4 := hw4.symm; subst hw4; rw [hcb.out])
      | fail)
    go_ret
    exact Keep.intro ⟨X, by rw [ha.out]; rfl, by rw [hb.out]; exact again.out, Upd.refl _ _, fun _ => Ext.refl _⟩
  have hcb := hide_ (decide_eq_true hc)
  by_cases hj1 : j < 0
  · have t1 : decide (j < 0) = true := decide_eq_true hj1
    have ha := hide_ (show addOk t.length T k v j x = false from decide_eq_false fun h => by have := h.2.1; omega)
    have hb := hide_ (show addT t.length T k v j x = T from if_neg fun h => by have := h.2.1; omega)
    clear hc h hk0 hv0 hj0 hx0 hj1
    go_enter Try.func26, Try.ntmps26
    go_wp2_with (first
      | go_big_skip
      | (go_at_call 39; refine (canBe_any k v x _).mono ?_; rintro e w4 ⟨rfl, hw4⟩; replace hw4 := hw4.symm; subst hw4; rw [hcb.out])
      | fail)
    go_ret
    exact Keep.intro ⟨X, by rw [ha.out]; rfl, by rw [hb.out]; exact again.out, Upd.refl _ _, fun _ => Ext.refl _⟩
  have t1 : decide (j < 0) = false := decide_eq_false hj1
  by_cases hj2 : (t.length : Int) ≤ j
  · have t2 : decide ((t.length : Int) ≤ j) = true := decide_eq_true hj2
    have ha := hide_ (show addOk t.length T k v j x = false from decide_eq_false fun h => by have := h.2.1; omega)
    have hb := hide_ (show addT t.length T k v j x = T from if_neg fun h => by have := h.2.1; omega)
    clear hc h hk0 hv0 hj0 hx0 hj1 hj2
    go_enter Try.func26, Try.ntmps26
    go_wp2_with ((first
      | go_big_skip
      | (go_at_call 39; refine (canBe_any k v x _).mono ?_; rintro e w4 ⟨rfl, hw4⟩; replace hw4 := hw4.symm; subst hw4; rw [hcb.out])
      | ((with_reducible refine at_field ?_); (try refine w_yes _ _ _ rfl rfl rfl ?_); refine w_field Try.stTal _ _ _ rfl rfl rfl (by omega) ?_)
      | ((with_reducible refine at_load ?_); (try refine w_yes _ _ _ rfl rfl rfl ?_); refine w_fload _ rfl rfl rfl (f0.out.ext hX) rfl (agg_of (by kernel_rfl)) ?_)
      | (refine w_yes _ _ _ rfl rfl rfl ?_; refine i_len _ rfl rfl rfl (hst.out.ext hX) ?_)
      | fail) <;> (try simp only [Act.put, List.setIfInBounds_toArray, List.set_cons_zero, List.set_cons_succ]))
    go_ret
    exact Keep.intro ⟨X, by rw [ha.out]; rfl, by rw [hb.out]; exact again.out, Upd.ofExt hX X, fun _ => hX⟩
  have t2 : decide ((t.length : Int) ≤ j) = false := decide_eq_false hj2
  obtain ⟨i, hi⟩ : ∃ i : Nat, j = (i : Int) := ⟨j.toNat, by omega⟩
  subst hi
  have t3 : decide (t.length ≤ i) = false := decide_eq_false (by omega)
  obtain ⟨r, hr0⟩ : ∃ r, fat (T k v) (i : Int) = r := ⟨_, rfl⟩
  have hr := hide_ hr0
  cases r with
  | some y =>
    have ha := hide_ (show addOk t.length T k v i x = false from decide_eq_false fun h => by rw [hr0] at h; cases h.2.2)
    have hb := hide_ (show addT t.length T k v i x = T from if_neg fun h => by rw [hr0] at h; cases h.2.2)
    clear hc h hk0 hv0 hj0 hx0 hj1 hj2 hr0 t2
    go_enter Try.func26, Try.ntmps26
    go_wp2_with ((first
      | go_big_skip
      | (go_at_call 39; refine (canBe_any k v x _).mono ?_; rintro e w4 ⟨rfl, hw4⟩; replace hw4 := hw4.symm; subst hw4; rw [hcb.out])
      | (go_at_call 17; refine (TVote_any ((hT.out).ext hX) hk.out hv.out hj.out hr.out).mono ?_; rintro e w5 ⟨rfl, hw5⟩; replace hw5 := hw5.symm; subst hw5)
      | ((with_reducible refine at_field ?_); (try refine w_yes _ _ _ rfl rfl rfl ?_); refine w_field Try.stTal _ _ _ rfl rfl rfl (by omega) ?_)
      | ((with_reducible refine at_load ?_); (try refine w_yes _ _ _ rfl rfl rfl ?_); refine w_fload _ rfl rfl rfl (f0.out.ext hX) rfl (agg_of (by kernel_rfl)) ?_)
      | (refine w_yes _ _ _ rfl rfl rfl ?_; refine i_len _ rfl rfl rfl (hst.out.ext hX) ?_)
      | fail) <;> (try simp only [Act.put, List.setIfInBounds_toArray, List.set_cons_zero, List.set_cons_succ]))
    go_ret
    exact Keep.intro ⟨X, by rw [ha.out]; rfl, by rw [hb.out]; exact again.out.ext hX, Upd.ofExt hX X, fun _ => hX⟩
  | none =>
    have hcond : CanB k v x ∧ (0 ≤ (i : Int) ∧ (i : Int) < (t.length : Int)) ∧ fat (T k v) (i : Int) = none := ⟨hc, by omega, hr0⟩
    have ha := hide_ (show addOk t.length T k v i x = true from decide_eq_true hcond)
    have hb := hide_ (show addT t.length T k v i x = putT T k v i x from if_pos hcond)
    have hcan := hide_ hc
    have hit := hide_ (show i < t.length from by omega)
    have hx64 := hide_ (show -1 ≤ x ∧ x ≤ 9223372036854775807 from ⟨hc.2.2, hx0.2⟩)
    have hown := hide_ h.own
    have hrnd := hide_ h.rnd
    have hi64 := hide_ (show In64 (i : Int) from In64.nat (by omega))
    have hib : i ≤ 7 := by omega
    clear hc h hk0 hv0 hj0 hx0 hj1 hj2 hr0 hcond hlen t2
    go_enter Try.func26, Try.ntmps26
    go_wp2_with ((first
      | go_big_skip
      | (go_at_call 39; refine (canBe_any k v x _).mono ?_; rintro e w4 ⟨rfl, hw4⟩; replace hw4 := hw4.symm; subst hw4; rw [hcb.out])
      | (go_at_call 17; refine (TVote_any ((hT.out).ext hX) hk.out hv.out hj.out hr.out).mono ?_; rintro e w5 ⟨rfl, hw5⟩; replace hw5 := hw5.symm; subst hw5)
      | ((with_reducible refine at_field ?_); (try refine w_yes _ _ _ rfl rfl rfl ?_); refine w_field Try.stTal _ _ _ rfl rfl rfl (by omega) ?_)
      | ((with_reducible refine at_load ?_); (try refine w_yes _ _ _ rfl rfl rfl ?_); refine w_fload _ rfl rfl rfl (f0.out.ext hX) rfl (agg_of (by kernel_rfl)) ?_)
      | (refine w_yes _ _ _ rfl rfl rfl ?_; refine i_len _ rfl rfl rfl (hst.out.ext hX) ?_)
      | ((with_reducible refine at_sbuild ?_); refine w_sbuild Try.stRnd [.int .i64 k, .int .i64 v] rfl rfl rfl (by intro x hx; simp at hx; rcases hx with rfl | rfl; exact ⟨by decide, rfl⟩; exact ⟨by decide, rfl⟩) ?_)
      | ((with_reducible refine at_alloc ?_); refine w_alloc Try.stRnd rfl rfl ?_; intro g3 w6 hg30 hx f3; have hg3 := hide_ (Nat.le_trans hX.size hg30); replace hX := hX.trans hx; clear hx hg30)
      | ((with_reducible refine at_store ?_); refine w_astore Try.stRnd _ _ (us := [.int .i64 k, .int .i64 v]) rfl rfl rfl rfl rfl f3 rfl rfl (by intro u hu; simp at hu; rcases hu with rfl | rfl <;> rfl) ?_; intro w7 hm7 f3'; replace hX := hm7.after hX (by intro j hj; subst hj; exact hg3.out); replace f3 := f3'; clear f3' hm7)
      | fail) <;> (try simp only [Act.put, List.setIfInBounds_toArray, List.set_cons_zero, List.set_cons_succ]))
    cases hm0 : m k v with
    | none =>
      have hm := hide_ hm0
      have hN1 := hide_ (show N ≤ 1000000 from by omega)
      have hbne := hide_ (show ∀ b, w.heap.size ≤ b → b ≠ g from fun b hb e => by have := hown.out.lt; omega)
      clear hm0
      refine wp_region_phx (by kernel_rfl) ?_; intro wd hxd; have F0 := f0.out.ext (hX.trans hxd); have F3 := f3.ext hxd; have O1 := hide_ (ownsMap_ext hown.out (hX.trans hxd))
      refine Ph.rest 0 7 (by kernel_rfl) ?_
      refine LinL.step (s := (.val (.pointer (some ⟨p, 0, none⟩)))) [(0, none)] rfl (by kernel_rfl) (op_out 0 (.pointer (some ⟨p, 0, none⟩)) rfl (.inl rfl) rfl) ?_
      refine LinL.step (s := (.val (.pointer (some ⟨p, 0, none⟩)))) [(44, some 0)] rfl (by kernel_rfl) (op_runs rfl fun σ w' hx hg => ⟨_, runs_nil (ρ := σ.eval) (w := w') (.tmp 44) rfl hg.1, rfl⟩) ?_
      refine LinL.step (s := (.val (.pointer (some ⟨p, 1, none⟩)))) [(45, some 0)] rfl (by kernel_rfl) (op_runs rfl fun σ w' hx hg => ⟨_, runs_field (ρ := σ.eval) (w := w') Try.stTal (.tmp 45) p 1 rfl hg.1 (by omega), rfl⟩) ?_
      refine LinL.step (s := (.val (.map (some g)))) [(46, some 0)] rfl (by kernel_rfl) (op_runs rfl fun σ w' hx hg => ⟨_, runs_fload (ρ := σ.eval) (w := w') (.tmp 46) rfl hg.1 (agg_of (by kernel_rfl) _) (F0.ext hx) rfl, rfl⟩) ?_
      refine LinL.step (s := (.val (.agg #[.int .i64 k, .int .i64 v]))) [(13, none)] rfl (by kernel_rfl) (op_runs rfl fun σ w' hx hg => ⟨_, runs_aload (ρ := σ.eval) (w := w') Try.stRnd (.tmp 13) rfl hg.1 (F3.ext hx) rfl, rfl⟩) ?_
      refine LinL.step (s := (.val (.map (m k v)))) [(47, some 1), (48, some 0)] rfl (by kernel_rfl) (op_runs rfl fun σ w' hx hg => ⟨_, runs_rlook (ρ := σ.eval) (w := w') (.tmp 47) (.tmp 48) rfl hg.1 hg.2.1 hk.out hv.out (ownsMap_ext O1.out hx) hrnd.out, rfl⟩) ?_
      refine LinL.step (s := (.val (.bool (m k v).isNone))) [(49, some 0)] rfl (by kernel_rfl) (op_runs rfl fun σ w' hx hg => ⟨_, runs_mnil (ρ := σ.eval) (w := w') (.tmp 49) rfl hg.1 rfl, rfl⟩) ?_
      intro wN hxN
      simp only [Fin', List.reverse_cons, List.reverse_nil, List.nil_append, List.cons_append, List.drop_zero, List.take_succ_cons, List.take_zero]
      simp only [Act.put, List.setIfInBounds_toArray, List.set_cons_zero, List.set_cons_succ]
      rw [hm.out]
      replace hX := (hX.trans hxd).trans hxN
      replace f3 := (f3.ext hxd).ext hxN
      go_wp2
      refine wp_region_phx (by kernel_rfl) ?_; intro wd hxd; have F0 := f0.out.ext (hX.trans hxd); have F3 := f3.ext hxd
      refine Ph.gate 0 6 (by kernel_rfl) ?_
      refine LinL.step (s := (.val (.pointer (some ⟨p, 0, none⟩)))) [(0, none)] rfl (by kernel_rfl) (op_out 0 (.pointer (some ⟨p, 0, none⟩)) rfl (.inl rfl) rfl) ?_
      refine LinL.step (s := (.val (.pointer (some ⟨p, 0, none⟩)))) [(51, some 0)] rfl (by kernel_rfl) (op_runs rfl fun σ w' hx hg => ⟨_, runs_nil (ρ := σ.eval) (w := w') (.tmp 51) rfl hg.1, rfl⟩) ?_
      refine LinL.step (s := (.val (.pointer (some ⟨p, 1, none⟩)))) [(52, some 0)] rfl (by kernel_rfl) (op_runs rfl fun σ w' hx hg => ⟨_, runs_field (ρ := σ.eval) (w := w') Try.stTal (.tmp 52) p 1 rfl hg.1 (by omega), rfl⟩) ?_
      refine LinL.step (s := (.val (.map (some g)))) [(53, some 0)] rfl (by kernel_rfl) (op_runs rfl fun σ w' hx hg => ⟨_, runs_fload (ρ := σ.eval) (w := w') (.tmp 53) rfl hg.1 (agg_of (by kernel_rfl) _) (F0.ext hx) rfl, rfl⟩) ?_
      refine LinL.step (s := (.val (.agg #[.int .i64 k, .int .i64 v]))) [(13, none)] rfl (by kernel_rfl) (op_runs rfl fun σ w' hx hg => ⟨_, runs_aload (ρ := σ.eval) (w := w') Try.stRnd (.tmp 13) rfl hg.1 (F3.ext hx) rfl, rfl⟩) ?_
      refine LinL.step (s := (Sp.nmap w.heap.size)) [] rfl (by kernel_rfl) (op_mkmap (Nat.le_trans hX.size hxd.size) rfl rfl) ?_
      intro wN hxN
      simp only [Fin', Sp.nmap, List.reverse_cons, List.reverse_nil, List.nil_append, List.cons_append, List.drop_zero, List.take_succ_cons, List.take_zero]
      intro q56 hq56
      simp only [Act.put, List.setIfInBounds_toArray, List.set_cons_zero, List.set_cons_succ]
      obtain ⟨b, rfl, hb1, hb2, hb3⟩ := hq56
      replace hX := (hX.trans hxd).trans hxN; replace f3 := (f3.ext hxd).ext hxN
      refine wpOp_of_list rfl ?_
      refine w_mput Try.keyR Try.underlying53 _ _ _ rfl rfl rfl rfl rfl rfl (ownsMap_ext hown.out hX) hN1.out (rkL_of hk.out hv.out) ?_; intro w8 hm8 o8
      show Ph Try.prog _ _ 7 _ _
      refine Ph.rest 7 0 (by kernel_rfl) ?_
      intro wM hxM
      simp only [Fin', List.reverse_nil, List.drop_zero, List.drop_succ_cons, List.take_zero]
      go_wp2
      obtain ⟨D1, m1, hmb0, hW⟩ : ∃ D1 m1, m1 k v = some b ∧ TalW (fun j => X j ∨ j = b) wM p sv g D1 m1 t T (N + 1) := ⟨_, _, if_pos ⟨rfl, rfl⟩, (hW0.out.begin hm.out hcan.out.1 hcan.out.2.1 hX hb1 hb2 hm8 (ownsMap_mod hb3 hm8 (hbne.out b hb1)) o8).ext hxM⟩
      have U := hide_ (show Upd X (fun j => X j ∨ j = b) w wM from (show Upd X (fun j => X j ∨ j = b) w w8 from ⟨(hX.mod X).trans hm8 (fun j _ e => by have e' : j = g := e; rw [e']; exact hW0.out.xp.2.1), fun j hj => hj.imp id fun e => by have e' : j = b := e; rw [e']; exact ⟨hb1, Nat.lt_of_lt_of_le hb2 hm8.size⟩⟩).trans (Upd.ofExt hxM _))
      have hmb := hide_ hmb0
      have hmap0 := ownsMap_ext (ownsMap_mod hb3 hm8 (hbne.out b hb1)) hxM
      have hin := hide_ (show InM (.map []) (T k v) from by
        have := hW0.out.inn k v
        rw [hm.out] at this
        have e : T k v = fun _ => none := funext this
        rw [e]; exact InM.nil)
      replace f3 := (f3.mod hm8 (hbne.out g3 hg3.out)).ext hxM
      clear hmb0 o8 hm8 hX hb3 hxM
      have hmap := hide_ hmap0
      have hnn := hide_ (show (0 : Nat) ≤ 1000000 from by omega)
      refine wp_region_phx (by kernel_rfl) ?_; intro wd hxd; have F0 := hW.obj.ext hxd; have F3 := f3.ext hxd; have O1 := hide_ (ownsMap_ext hW.own hxd); have R1 := hide_ hW.rnd
      refine Ph.gate 0 8 (by kernel_rfl) ?_
      refine LinL.step (s := (.val (.pointer (some ⟨p, 0, none⟩)))) [(0, none)] rfl (by kernel_rfl) (op_out 0 (.pointer (some ⟨p, 0, none⟩)) rfl (.inl rfl) rfl) ?_
      refine LinL.step (s := (.val (.pointer (some ⟨p, 0, none⟩)))) [(57, some 0)] rfl (by kernel_rfl) (op_runs rfl fun σ w' hx hg => ⟨_, runs_nil (ρ := σ.eval) (w := w') (.tmp 57) rfl hg.1, rfl⟩) ?_
      refine LinL.step (s := (.val (.pointer (some ⟨p, 1, none⟩)))) [(58, some 0)] rfl (by kernel_rfl) (op_runs rfl fun σ w' hx hg => ⟨_, runs_field (ρ := σ.eval) (w := w') Try.stTal (.tmp 58) p 1 rfl hg.1 (by omega), rfl⟩) ?_
      refine LinL.step (s := (.val (.map (some g)))) [(59, some 0)] rfl (by kernel_rfl) (op_runs rfl fun σ w' hx hg => ⟨_, runs_fload (ρ := σ.eval) (w := w') (.tmp 59) rfl hg.1 (agg_of (by kernel_rfl) _) (F0.ext hx) rfl, rfl⟩) ?_
      refine LinL.step (s := (.val (.agg #[.int .i64 k, .int .i64 v]))) [(13, none)] rfl (by kernel_rfl) (op_runs rfl fun σ w' hx hg => ⟨_, runs_aload (ρ := σ.eval) (w := w') Try.stRnd (.tmp 13) rfl hg.1 (F3.ext hx) rfl, rfl⟩) ?_
      refine LinL.step (s := (.val (.map (some b)))) [(60, some 1), (61, some 0)] rfl (by kernel_rfl) (op_runs rfl fun σ w' hx hg => ⟨_, by rw [← hmb.out]; exact runs_rlook (ρ := σ.eval) (w := w') (.tmp 60) (.tmp 61) rfl hg.1 hg.2.1 hk.out hv.out (ownsMap_ext O1.out hx) R1.out, rfl⟩) ?_
      refine LinL.step (s := (.val (.int .i64 (i : Nat)))) [(3, none)] rfl (by kernel_rfl) (op_out 3 (.int .i64 (i : Nat)) rfl (.inl rfl) rfl) ?_
      refine LinL.step (s := (.val (.int .i64 x))) [(4, none)] rfl (by kernel_rfl) (op_out 4 (.int .i64 x) rfl (.inl rfl) rfl) ?_
      intro wN hxN
      simp only [Fin', List.reverse_cons, List.reverse_nil, List.nil_append, List.cons_append, List.drop_zero, List.take_succ_cons, List.take_zero]
      simp only [Act.put, List.setIfInBounds_toArray, List.set_cons_zero, List.set_cons_succ]
      replace hW := (hW.ext hxd).ext hxN
      refine wpOp_of_list rfl ?_
      refine w_mput Try.keyI Try.underlying65 _ _ _ rfl rfl rfl rfl rfl rfl (ownsMap_ext (ownsMap_ext hmap.out hxd) hxN) hnn.out (Maps.keyOf_int_mk Try.underlying3 hi64.out.wf) ?_; intro w9 hm9 o9
      show Ph Try.prog _ _ 9 _ _
      refine Ph.rest 9 0 (by kernel_rfl) ?_
      intro wM hxM
      simp only [Fin', List.reverse_nil, List.drop_zero, List.drop_succ_cons, List.take_zero]
      go_wp2
      go_ret
      refine Keep.intro ⟨_, by rw [ha.out]; rfl, ⟨sv, g, D1, m1, by rw [hb.out]; exact (hW.vote hmb.out hcan.out.1 hcan.out.2.1 hit.out hx64.out hm9 (N' := N + 1) (n := 0 + 1) (by omega) (by omega) o9 hin.out).ext hxM⟩, ?_, fun h => by rw [ha.out] at h; cases h⟩
      exact U.out.trans ((show Upd _ _ _ w9 from ⟨((hxd.trans hxN).mod _).trans hm9 (fun j _ e => .inr e), fun j hj => .inl hj⟩).trans (Upd.ofExt hxM _))
    | some b =>
      have hm := hide_ hm0
      have hmb := hide_ hm0
      clear hm0
      refine wp_region_phx (by kernel_rfl) ?_; intro wd hxd; have F0 := f0.out.ext (hX.trans hxd); have F3 := f3.ext hxd; have O1 := hide_ (ownsMap_ext hown.out (hX.trans hxd))
      refine Ph.rest 0 7 (by kernel_rfl) ?_
      refine LinL.step (s := (.val (.pointer (some ⟨p, 0, none⟩)))) [(0, none)] rfl (by kernel_rfl) (op_out 0 (.pointer (some ⟨p, 0, none⟩)) rfl (.inl rfl) rfl) ?_
      refine LinL.step (s := (.val (.pointer (some ⟨p, 0, none⟩)))) [(44, some 0)] rfl (by kernel_rfl) (op_runs rfl fun σ w' hx hg => ⟨_, runs_nil (ρ := σ.eval) (w := w') (.tmp 44) rfl hg.1, rfl⟩) ?_
      refine LinL.step (s := (.val (.pointer (some ⟨p, 1, none⟩)))) [(45, some 0)] rfl (by kernel_rfl) (op_runs rfl fun σ w' hx hg => ⟨_, runs_field (ρ := σ.eval) (w := w') Try.stTal (.tmp 45) p 1 rfl hg.1 (by omega), rfl⟩) ?_
      refine LinL.step (s := (.val (.map (some g)))) [(46, some 0)] rfl (by kernel_rfl) (op_runs rfl fun σ w' hx hg => ⟨_, runs_fload (ρ := σ.eval) (w := w') (.tmp 46) rfl hg.1 (agg_of (by kernel_rfl) _) (F0.ext hx) rfl, rfl⟩) ?_
      refine LinL.step (s := (.val (.agg #[.int .i64 k, .int .i64 v]))) [(13, none)] rfl (by kernel_rfl) (op_runs rfl fun σ w' hx hg => ⟨_, runs_aload (ρ := σ.eval) (w := w') Try.stRnd (.tmp 13) rfl hg.1 (F3.ext hx) rfl, rfl⟩) ?_
      refine LinL.step (s := (.val (.map (m k v)))) [(47, some 1), (48, some 0)] rfl (by kernel_rfl) (op_runs rfl fun σ w' hx hg => ⟨_, runs_rlook (ρ := σ.eval) (w := w') (.tmp 47) (.tmp 48) rfl hg.1 hg.2.1 hk.out hv.out (ownsMap_ext O1.out hx) hrnd.out, rfl⟩) ?_
      refine LinL.step (s := (.val (.bool (m k v).isNone))) [(49, some 0)] rfl (by kernel_rfl) (op_runs rfl fun σ w' hx hg => ⟨_, runs_mnil (ρ := σ.eval) (w := w') (.tmp 49) rfl hg.1 rfl, rfl⟩) ?_
      intro wN hxN
      simp only [Fin', List.reverse_cons, List.reverse_nil, List.nil_append, List.cons_append, List.drop_zero, List.take_succ_cons, List.take_zero]
      simp only [Act.put, List.setIfInBounds_toArray, List.set_cons_zero, List.set_cons_succ]
      rw [hm.out]
      replace hX := (hX.trans hxd).trans hxN
      replace f3 := (f3.ext hxd).ext hxN
      have hW := hW0.out.ext hX
      go_wp2
      obtain ⟨n, D', hn0, hmap0, hin⟩ : ∃ n D', n ≤ N ∧ wN.ownsMap Try.prog 3 tok b n D' ∧ InM D' (T k v) := by
        have := hW.inn k v
        rw [hmb.out] at this
        exact this
      have hmap := hide_ hmap0
      have hnn := hide_ (show n ≤ 1000000 from by omega)
      have U := hide_ (show Upd X X w wN from Upd.ofExt hX X)
      have hXb := hide_ (hW.sep k v b hmb.out).1
      clear hmap0
      refine wp_region_phx (by kernel_rfl) ?_; intro wd hxd; have F0 := hW.obj.ext hxd; have F3 := f3.ext hxd; have O1 := hide_ (ownsMap_ext hW.own hxd); have R1 := hide_ hW.rnd
      refine Ph.gate 0 8 (by kernel_rfl) ?_
      refine LinL.step (s := (.val (.pointer (some ⟨p, 0, none⟩)))) [(0, none)] rfl (by kernel_rfl) (op_out 0 (.pointer (some ⟨p, 0, none⟩)) rfl (.inl rfl) rfl) ?_
      refine LinL.step (s := (.val (.pointer (some ⟨p, 0, none⟩)))) [(57, some 0)] rfl (by kernel_rfl) (op_runs rfl fun σ w' hx hg => ⟨_, runs_nil (ρ := σ.eval) (w := w') (.tmp 57) rfl hg.1, rfl⟩) ?_
      refine LinL.step (s := (.val (.pointer (some ⟨p, 1, none⟩)))) [(58, some 0)] rfl (by kernel_rfl) (op_runs rfl fun σ w' hx hg => ⟨_, runs_field (ρ := σ.eval) (w := w') Try.stTal (.tmp 58) p 1 rfl hg.1 (by omega), rfl⟩) ?_
      refine LinL.step (s := (.val (.map (some g)))) [(59, some 0)] rfl (by kernel_rfl) (op_runs rfl fun σ w' hx hg => ⟨_, runs_fload (ρ := σ.eval) (w := w') (.tmp 59) rfl hg.1 (agg_of (by kernel_rfl) _) (F0.ext hx) rfl, rfl⟩) ?_
      refine LinL.step (s := (.val (.agg #[.int .i64 k, .int .i64 v]))) [(13, none)] rfl (by kernel_rfl) (op_runs rfl fun σ w' hx hg => ⟨_, runs_aload (ρ := σ.eval) (w := w') Try.stRnd (.tmp 13) rfl hg.1 (F3.ext hx) rfl, rfl⟩) ?_
      refine LinL.step (s := (.val (.map (some b)))) [(60, some 1), (61, some 0)] rfl (by kernel_rfl) (op_runs rfl fun σ w' hx hg => ⟨_, by rw [← hmb.out]; exact runs_rlook (ρ := σ.eval) (w := w') (.tmp 60) (.tmp 61) rfl hg.1 hg.2.1 hk.out hv.out (ownsMap_ext O1.out hx) R1.out, rfl⟩) ?_
      refine LinL.step (s := (.val (.int .i64 (i : Nat)))) [(3, none)] rfl (by kernel_rfl) (op_out 3 (.int .i64 (i : Nat)) rfl (.inl rfl) rfl) ?_
      refine LinL.step (s := (.val (.int .i64 x))) [(4, none)] rfl (by kernel_rfl) (op_out 4 (.int .i64 x) rfl (.inl rfl) rfl) ?_
      intro wN hxN
      simp only [Fin', List.reverse_cons, List.reverse_nil, List.nil_append, List.cons_append, List.drop_zero, List.take_succ_cons, List.take_zero]
      simp only [Act.put, List.setIfInBounds_toArray, List.set_cons_zero, List.set_cons_succ]
      replace hW := (hW.ext hxd).ext hxN
      refine wpOp_of_list rfl ?_
      refine w_mput Try.keyI Try.underlying65 _ _ _ rfl rfl rfl rfl rfl rfl (ownsMap_ext (ownsMap_ext hmap.out hxd) hxN) hnn.out (Maps.keyOf_int_mk Try.underlying3 hi64.out.wf) ?_; intro w9 hm9 o9
      show Ph Try.prog _ _ 9 _ _
      refine Ph.rest 9 0 (by kernel_rfl) ?_
      intro wM hxM
      simp only [Fin', List.reverse_nil, List.drop_zero, List.drop_succ_cons, List.take_zero]
      go_wp2
      go_ret
      refine Keep.intro ⟨_, by rw [ha.out]; rfl, ⟨sv, g, D, m, by rw [hb.out]; exact (hW.vote hmb.out hcan.out.1 hcan.out.2.1 hit.out hx64.out hm9 (N' := N + 1) (n := n + 1) (by omega) (by omega) o9 hin).ext hxM⟩, ?_, fun h => by rw [ha.out] at h; cases h⟩
      exact U.out.trans ((show Upd _ _ _ w9 from ⟨((hxd.trans hxN).mod _).trans hm9 (fun j _ e => by have e' : j = b := e; rw [e']; exact hXb.out), fun j hj => .inl hj⟩).trans (Upd.ofExt hxM _))
end Go.Proofs.Ytmhmkaginnddeaa
