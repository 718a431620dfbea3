/- The document's Most. -/
import Derived.Test.YtmhmkaginnddeaaTlW
namespace Go.Proofs.Ytmhmkaginnddeaa
set_option maxRecDepth 100000
open Go.RowKit

theorem whoRR {w : World} {sv u : Value} {t : List Int} {L : List VtD} {k v x : Int} (h : Ty w sv u t L) (hlen : L.length ≤ 100000) (ht : t.length ≤ 7) {R : List Int} (hR : (ofV L).who t.length k v x = R) :
    Calls Try.prog 24 #[.agg #[sv, u], .int .i64 k, .int .i64 v, .int .i64 x] w fun e w' => ∃ z, e = .returned z ∧ Ext w w' ∧ (Sp.ints R).p z w' := by
  refine (WhoR_any h hlen ht hR).mono ?_
  rintro e w' ⟨z, rfl, o, hx⟩
  exact ⟨z, rfl, hx, o.ints⟩
theorem mem_takeV {l : List VtD} {j : Nat} (hj : j < l.length) {e : VtD} (he : l[j] = e) {p : VtD → Prop} (h : ∀ x ∈ l.take j, p x) (hp : p e) : ∀ x ∈ l.take (j + 1), p x := by
  intro x hx
  rw [List.take_add_one, List.getElem?_eq_getElem hj, he, List.mem_append, Option.toList_some, List.mem_singleton] at hx
  rcases hx with hx | rfl
  · exact h x hx
  · exact hp
theorem mostR_none {t : List Int} (ht : StOk t) {L : List VtD} {k v : Int} (h : ∀ d ∈ L, ¬ (d.k = k ∧ d.w = v ∧ (ofV L).Mst t k v d.x)) : (ofV L).mostOf t k v = none := by
  cases hm : (ofV L).mostOf t k v with
  | none => rfl
  | some y =>
    exfalso
    have hM := (Tab.mostOf_iff ht).1 hm
    obtain ⟨i, _, hi⟩ := hM.one ht
    obtain ⟨d, hd, e1, e2, _, e4⟩ := ofV_mem hi
    exact h d hd ⟨e1, e2, by rw [e4]; exact hM⟩

set_option maxRecDepth 100000 in
set_option maxHeartbeats 6400000 in
theorem MostR_any {w : World} {sv u : Value} {t : List Int} {L : List VtD} {k v : Int} (h : Ty w sv u t L) (hlen0 : L.length ≤ 100000) (ht : StOk t) {r : Option Int} (hr0 : (ofV L).mostOf t k v = r) :
    Calls Try.prog 19 #[.agg #[sv, u], .int .i64 k, .int .i64 v] w fun e w' => e = .returned (.tuple #[.int .i64 (r.getD 0), .bool r.isSome]) ∧ Ext w w' := by
  refine calls_keep ?_
  have hT := hide_ h
  have hL := hide_ (show Recs 4 VtR w u L from h.2)
  have hlen := hide_ hlen0
  have hst := hide_ ht
  have hr := hide_ hr0
  have hX := Ext.refl w
  clear h hlen0 ht hr0
  go_enter Try.func19, Try.ntmps19
  go_wp2_with ((first
    | ((with_reducible refine at_box ?_); refine w_box _ [sv, u] rfl rfl rfl rfl ?_; intro b3 w1 hb4 hx f3; replace hX := hX.trans hx; clear hx)
    | ((with_reducible refine at_field ?_); refine w_field Try.stTy _ _ _ rfl rfl rfl (by omega) ?_)
    | ((with_reducible refine at_load ?_); refine w_fload _ rfl rfl rfl f3 rfl (agg_of (by kernel_rfl)) ?_)
    | ((with_reducible refine at_bi ?_); refine w_rlen Try.elVt _ rfl rfl rfl (hL.out.ext VtR.stays hX) ?_)
    | fail) <;> (try simp only [Act.put, List.setIfInBounds_toArray, List.set_cons_zero, List.set_cons_succ]))
  go_loopw [13] (fun u13 wr => ∃ i : Nat, u13 = .int .i64 i ∧ i ≤ L.length ∧ Hid (∀ d ∈ L.take i, ¬ (d.k = k ∧ d.w = v ∧ (ofV L).Mst t k v d.x)) ∧ Fs wr b3 [sv, u] ∧ Ext w wr) (fun i _ => L.length - (intOf i).toNat)
  case atStart => exact ⟨0, rfl, Nat.zero_le _, (fun d hd => nomatch hd), f3, hX⟩
  case round =>
    clear hX f3
    obtain ⟨i, rfl, hi, hno, f3, hX⟩ := hrel
    by_cases hlt0 : i < L.length
    · have hlt := hide_ hlt0
      have tl : decide (i < L.length) = true := decide_eq_true hlt0
      have hi7 : i ≤ 100000 := by have := hlen.out; omega
      obtain ⟨d, hd0⟩ : ∃ d, L[i] = d := ⟨_, rfl⟩
      have hd := hide_ hd0
      have hstep := hide_ (fun hp => mem_takeV hlt0 hd0 (p := fun d => ¬ (d.k = k ∧ d.w = v ∧ (ofV L).Mst t k v d.x)) hno.out hp)
      clear hd0 hlt0 hno
      cases c1 : (d.k == k)
      · have hn := hide_ (hstep.out fun h => by simp [h.1] at c1)
        go_wp2_with ((first
          | ((with_reducible refine at_idx ?_); refine w_ridx0 (W0 := w) Try.elVt _ _ i VtR.stays rfl rfl rfl rfl hL.out hX hlt.out ?_; rintro pq row hrow hrl hre; obtain ⟨rfl, _⟩ := (congrArg (fun z => VtR w row z) hd.out).mp hre)
          | ((with_reducible refine at_load ?_); refine w_pload Try.stVt _ rfl rfl rfl (hrow.ext hX) hrl ?_)
          | ((with_reducible refine at_alloc ?_); refine w_alloc Try.stVt rfl rfl ?_; intro b9 w4 hg hx4 f9)
          | ((with_reducible refine at_store ?_); refine w_astore Try.stVt (us := vrow d) _ _ rfl rfl rfl rfl rfl f9 rfl rfl (vt_one d) ?_; intro w6 hm5 f5; replace f9 := f5; have hx5 := hm5.after hx4 (fun i e => e ▸ hg); replace f3 := f3.ext hx5; replace hX := hX.trans hx5; clear f5 hm5 hx4 hg hrow hx5)
          | fail) <;> (try simp only [Act.put, List.setIfInBounds_toArray, List.set_cons_zero, List.set_cons_succ]))
        refine wp_region_phx (by kernel_rfl) ?_; intro wd hxd; have F9 := f9.ext hxd; have F3 := f3.ext hxd; have H := hT.out.ext (hX.trans hxd)
        refine Ph.rest 0 21 (by kernel_rfl) ?_
        refine LinL.step (s := (.val (.pointer (some ⟨b9, 0, none⟩)))) [(9, none)] rfl (by kernel_rfl) (op_runs rfl fun σ w' hx hg => ⟨_, runs_field (ρ := σ.eval) (w := w') Try.stVt (.tmp 9) b9 0 rfl hg.1 (by omega), rfl⟩) ?_
        refine LinL.step (s := (.val (.int .i64 d.k))) [(17, some 0)] rfl (by kernel_rfl) (op_runs rfl fun σ w' hx hg => ⟨_, runs_fload (ρ := σ.eval) (w := w') (.tmp 17) rfl hg.1 (agg_of (by kernel_rfl) _) (F9.ext hx) rfl, rfl⟩) ?_
        refine LinL.step (s := (.val (.int .i64 k))) [(1, none)] rfl (by kernel_rfl) (op_out 1 (.int .i64 k) rfl (.inl rfl) rfl) ?_
        refine LinL.step (s := (.val (.bool false))) [(18, some 1), (19, some 0)] rfl (by kernel_rfl) (op_runs rfl fun σ w' hx hg => ⟨(.bool false), by have h18 : σ.tmps.getD 18 undef = .int .i64 d.k := hg.1; have h19 : σ.tmps.getD 19 undef = .int .i64 k := hg.2.1; unfold Runs execOp; simp [Act.eval, h18, h19, go_sem, c1], rfl⟩) ?_
        refine LinL.step (s := (.val (.bool false))) [(20, some 0)] rfl (by kernel_rfl) (op_copy 20 0 (.val (.bool false)) rfl (.inl rfl) rfl) ?_
        refine LinL.step (s := .val undef) [(9, none), (21, some 0)] rfl (by kernel_rfl) (op_no (reads := [(9, none)]) 4 21 0 true rfl rfl rfl) ?_
        refine LinL.step (s := .val undef) [(22, some 0), (21, some 1)] rfl (by kernel_rfl) (op_no (reads := [(22, some 0)]) 4 21 1 true rfl rfl rfl) ?_
        refine LinL.step (s := .val undef) [(2, none), (21, some 2)] rfl (by kernel_rfl) (op_no (reads := [(2, none)]) 4 21 2 true rfl rfl rfl) ?_
        refine LinL.step (s := .val undef) [(23, some 1), (24, some 0), (21, some 3)] rfl (by kernel_rfl) (op_no (reads := [(23, some 1), (24, some 0)]) 4 21 3 true rfl rfl rfl) ?_
        refine LinL.step (s := (.val (.bool false))) [(21, some 4), (25, some 0)] rfl (by kernel_rfl) (op_runs rfl fun σ w' hx hg => ⟨_, runs_pick_f (ρ := σ.eval) (w := w') (.tmp 21) (.tmp 25) (.const (.bool false)) rfl hg.1 rfl, rfl⟩) ?_
        refine LinL.step (s := (.val (.bool false))) [(26, some 0)] rfl (by kernel_rfl) (op_copy 26 0 (.val (.bool false)) rfl (.inl rfl) rfl) ?_
        refine LinL.step (s := .val undef) [(3, none), (27, some 0)] rfl (by kernel_rfl) (op_no (reads := [(3, none)]) 10 27 0 true rfl rfl rfl) ?_
        refine LinL.step (s := .val undef) [(28, some 0), (27, some 1)] rfl (by kernel_rfl) (op_no (reads := [(28, some 0)]) 10 27 1 true rfl rfl rfl) ?_
        refine LinL.step (s := .val undef) [(3, none), (27, some 2)] rfl (by kernel_rfl) (op_no (reads := [(3, none)]) 10 27 2 true rfl rfl rfl) ?_
        refine LinL.step (s := .val undef) [(1, none), (27, some 3)] rfl (by kernel_rfl) (op_no (reads := [(1, none)]) 10 27 3 true rfl rfl rfl) ?_
        refine LinL.step (s := .val undef) [(2, none), (27, some 4)] rfl (by kernel_rfl) (op_no (reads := [(2, none)]) 10 27 4 true rfl rfl rfl) ?_
        refine LinL.step (s := .val undef) [(9, none), (27, some 5)] rfl (by kernel_rfl) (op_no (reads := [(9, none)]) 10 27 5 true rfl rfl rfl) ?_
        refine LinL.step (s := .val undef) [(33, some 0), (27, some 6)] rfl (by kernel_rfl) (op_no (reads := [(33, some 0)]) 10 27 6 true rfl rfl rfl) ?_
        refine LinL.step (s := .val undef) [(30, some 4), (31, some 3), (32, some 2), (34, some 0), (27, some 7)] rfl (by kernel_rfl) (op_no (reads := [(30, some 4), (31, some 3), (32, some 2), (34, some 0)]) 10 27 7 true rfl rfl rfl) ?_
        refine LinL.step (s := .val undef) [(29, some 6), (35, some 0), (27, some 8)] rfl (by kernel_rfl) (op_no (reads := [(29, some 6), (35, some 0)]) 10 27 8 true rfl rfl rfl) ?_
        refine LinL.step (s := (.val (.bool false))) [(27, some 9), (36, some 0)] rfl (by kernel_rfl) (op_runs rfl fun σ w' hx hg => ⟨_, runs_pick_f (ρ := σ.eval) (w := w') (.tmp 27) (.tmp 36) (.const (.bool false)) rfl hg.1 rfl, rfl⟩) ?_
        intro wN hxN
        simp only [Fin', List.reverse_cons, List.reverse_nil, List.nil_append, List.cons_append, List.drop_zero, List.take_succ_cons, List.take_zero]
        simp only [Act.put, List.setIfInBounds_toArray, List.set_cons_zero, List.set_cons_succ]
        replace f3 := f3.ext (hxd.trans hxN)
        replace hX := hX.trans (hxd.trans hxN)
        go_wp2
        go_roundw
        case rel => exact ⟨i + 1, by go_num, by have := hlt.out; omega, hn.out, f3, hX⟩
        case measure => have := hlt.out; simp [intOf]; omega
      cases c2 : (d.w == v)
      · have hn := hide_ (hstep.out fun h => by simp [h.2.1] at c2)
        go_wp2_with ((first
          | ((with_reducible refine at_idx ?_); refine w_ridx0 (W0 := w) Try.elVt _ _ i VtR.stays rfl rfl rfl rfl hL.out hX hlt.out ?_; rintro pq row hrow hrl hre; obtain ⟨rfl, _⟩ := (congrArg (fun z => VtR w row z) hd.out).mp hre)
          | ((with_reducible refine at_load ?_); refine w_pload Try.stVt _ rfl rfl rfl (hrow.ext hX) hrl ?_)
          | ((with_reducible refine at_alloc ?_); refine w_alloc Try.stVt rfl rfl ?_; intro b9 w4 hg hx4 f9)
          | ((with_reducible refine at_store ?_); refine w_astore Try.stVt (us := vrow d) _ _ rfl rfl rfl rfl rfl f9 rfl rfl (vt_one d) ?_; intro w6 hm5 f5; replace f9 := f5; have hx5 := hm5.after hx4 (fun i e => e ▸ hg); replace f3 := f3.ext hx5; replace hX := hX.trans hx5; clear f5 hm5 hx4 hg hrow hx5)
          | fail) <;> (try simp only [Act.put, List.setIfInBounds_toArray, List.set_cons_zero, List.set_cons_succ]))
        refine wp_region_phx (by kernel_rfl) ?_; intro wd hxd; have F9 := f9.ext hxd; have F3 := f3.ext hxd; have H := hT.out.ext (hX.trans hxd)
        refine Ph.rest 0 21 (by kernel_rfl) ?_
        refine LinL.step (s := (.val (.pointer (some ⟨b9, 0, none⟩)))) [(9, none)] rfl (by kernel_rfl) (op_runs rfl fun σ w' hx hg => ⟨_, runs_field (ρ := σ.eval) (w := w') Try.stVt (.tmp 9) b9 0 rfl hg.1 (by omega), rfl⟩) ?_
        refine LinL.step (s := (.val (.int .i64 d.k))) [(17, some 0)] rfl (by kernel_rfl) (op_runs rfl fun σ w' hx hg => ⟨_, runs_fload (ρ := σ.eval) (w := w') (.tmp 17) rfl hg.1 (agg_of (by kernel_rfl) _) (F9.ext hx) rfl, rfl⟩) ?_
        refine LinL.step (s := (.val (.int .i64 k))) [(1, none)] rfl (by kernel_rfl) (op_out 1 (.int .i64 k) rfl (.inl rfl) rfl) ?_
        refine LinL.step (s := (.val (.bool true))) [(18, some 1), (19, some 0)] rfl (by kernel_rfl) (op_runs rfl fun σ w' hx hg => ⟨(.bool true), by have h18 : σ.tmps.getD 18 undef = .int .i64 d.k := hg.1; have h19 : σ.tmps.getD 19 undef = .int .i64 k := hg.2.1; unfold Runs execOp; simp [Act.eval, h18, h19, go_sem, c1], rfl⟩) ?_
        refine LinL.step (s := (.val (.bool true))) [(20, some 0)] rfl (by kernel_rfl) (op_copy 20 0 (.val (.bool true)) rfl (.inl rfl) rfl) ?_
        refine LinL.step (s := (.val (.pointer (some ⟨b9, 1, none⟩)))) [(9, none), (21, some 0)] rfl (by kernel_rfl) (op_yes (reads := [(9, none)]) 4 21 0 true rfl rfl rfl (op_runs rfl fun σ w' hx hg => ⟨_, runs_field (ρ := σ.eval) (w := w') Try.stVt (.tmp 9) b9 1 rfl hg.1 (by omega), rfl⟩)) ?_
        refine LinL.step (s := (.val (.int .i64 d.w))) [(22, some 0), (21, some 1)] rfl (by kernel_rfl) (op_yes (reads := [(22, some 0)]) 4 21 1 true rfl rfl rfl (op_runs rfl fun σ w' hx hg => ⟨_, runs_fload (ρ := σ.eval) (w := w') (.tmp 22) rfl hg.1 (agg_of (by kernel_rfl) _) (F9.ext hx) rfl, rfl⟩)) ?_
        refine LinL.step (s := (.val (.int .i64 v))) [(2, none), (21, some 2)] rfl (by kernel_rfl) (op_yes (reads := [(2, none)]) 4 21 2 true rfl rfl rfl (op_out 2 (.int .i64 v) rfl (.inl rfl) rfl)) ?_
        refine LinL.step (s := (.val (.bool false))) [(23, some 1), (24, some 0), (21, some 3)] rfl (by kernel_rfl) (op_yes (reads := [(23, some 1), (24, some 0)]) 4 21 3 true rfl rfl rfl (op_runs rfl fun σ w' hx hg => ⟨(.bool false), by have h23 : σ.tmps.getD 23 undef = .int .i64 d.w := hg.1; have h24 : σ.tmps.getD 24 undef = .int .i64 v := hg.2.1; unfold Runs execOp; simp [Act.eval, h23, h24, go_sem, c2], rfl⟩)) ?_
        refine LinL.step (s := (.val (.bool false))) [(21, some 4), (25, some 0)] rfl (by kernel_rfl) (op_runs rfl fun σ w' hx hg => ⟨_, runs_pick_t (ρ := σ.eval) (w := w') (.tmp 21) (.tmp 25) (.const (.bool false)) rfl hg.1 hg.2.1, rfl⟩) ?_
        refine LinL.step (s := (.val (.bool false))) [(26, some 0)] rfl (by kernel_rfl) (op_copy 26 0 (.val (.bool false)) rfl (.inl rfl) rfl) ?_
        refine LinL.step (s := .val undef) [(3, none), (27, some 0)] rfl (by kernel_rfl) (op_no (reads := [(3, none)]) 10 27 0 true rfl rfl rfl) ?_
        refine LinL.step (s := .val undef) [(28, some 0), (27, some 1)] rfl (by kernel_rfl) (op_no (reads := [(28, some 0)]) 10 27 1 true rfl rfl rfl) ?_
        refine LinL.step (s := .val undef) [(3, none), (27, some 2)] rfl (by kernel_rfl) (op_no (reads := [(3, none)]) 10 27 2 true rfl rfl rfl) ?_
        refine LinL.step (s := .val undef) [(1, none), (27, some 3)] rfl (by kernel_rfl) (op_no (reads := [(1, none)]) 10 27 3 true rfl rfl rfl) ?_
        refine LinL.step (s := .val undef) [(2, none), (27, some 4)] rfl (by kernel_rfl) (op_no (reads := [(2, none)]) 10 27 4 true rfl rfl rfl) ?_
        refine LinL.step (s := .val undef) [(9, none), (27, some 5)] rfl (by kernel_rfl) (op_no (reads := [(9, none)]) 10 27 5 true rfl rfl rfl) ?_
        refine LinL.step (s := .val undef) [(33, some 0), (27, some 6)] rfl (by kernel_rfl) (op_no (reads := [(33, some 0)]) 10 27 6 true rfl rfl rfl) ?_
        refine LinL.step (s := .val undef) [(30, some 4), (31, some 3), (32, some 2), (34, some 0), (27, some 7)] rfl (by kernel_rfl) (op_no (reads := [(30, some 4), (31, some 3), (32, some 2), (34, some 0)]) 10 27 7 true rfl rfl rfl) ?_
        refine LinL.step (s := .val undef) [(29, some 6), (35, some 0), (27, some 8)] rfl (by kernel_rfl) (op_no (reads := [(29, some 6), (35, some 0)]) 10 27 8 true rfl rfl rfl) ?_
        refine LinL.step (s := (.val (.bool false))) [(27, some 9), (36, some 0)] rfl (by kernel_rfl) (op_runs rfl fun σ w' hx hg => ⟨_, runs_pick_f (ρ := σ.eval) (w := w') (.tmp 27) (.tmp 36) (.const (.bool false)) rfl hg.1 rfl, rfl⟩) ?_
        intro wN hxN
        simp only [Fin', List.reverse_cons, List.reverse_nil, List.nil_append, List.cons_append, List.drop_zero, List.take_succ_cons, List.take_zero]
        simp only [Act.put, List.setIfInBounds_toArray, List.set_cons_zero, List.set_cons_succ]
        replace f3 := f3.ext (hxd.trans hxN)
        replace hX := hX.trans (hxd.trans hxN)
        go_wp2
        go_roundw
        case rel => exact ⟨i + 1, by go_num, by have := hlt.out; omega, hn.out, f3, hX⟩
        case measure => have := hlt.out; simp [intOf]; omega
      obtain ⟨WL, hWL0⟩ : ∃ WL, (ofV L).who t.length k v d.x = WL := ⟨_, rfl⟩
      have hWL := hide_ hWL0
      have hws := hide_ (show I64s WL ∧ WL.length * 8 ≤ 140737488351232 from hWL0 ▸ picks_i64s ((ofV L).has k v d.x) hst.out.2.1)
      obtain ⟨qm, hqm0⟩ : ∃ qm, most t WL = qm := ⟨_, rfl⟩
      have hqm := hide_ hqm0
      have hmm := hide_ (show (ofV L).Mst t k v d.x ↔ qm = true from by unfold Tab.Mst; rw [hWL0, hqm0])
      clear hWL0 hqm0
      cases qm
      · have hn := hide_ (hstep.out fun h => by have := hmm.out.1 h.2.2; cases this)
        go_wp2_with ((first
          | ((with_reducible refine at_idx ?_); refine w_ridx0 (W0 := w) Try.elVt _ _ i VtR.stays rfl rfl rfl rfl hL.out hX hlt.out ?_; rintro pq row hrow hrl hre; obtain ⟨rfl, _⟩ := (congrArg (fun z => VtR w row z) hd.out).mp hre)
          | ((with_reducible refine at_load ?_); refine w_pload Try.stVt _ rfl rfl rfl (hrow.ext hX) hrl ?_)
          | ((with_reducible refine at_alloc ?_); refine w_alloc Try.stVt rfl rfl ?_; intro b9 w4 hg hx4 f9)
          | ((with_reducible refine at_store ?_); refine w_astore Try.stVt (us := vrow d) _ _ rfl rfl rfl rfl rfl f9 rfl rfl (vt_one d) ?_; intro w6 hm5 f5; replace f9 := f5; have hx5 := hm5.after hx4 (fun i e => e ▸ hg); replace f3 := f3.ext hx5; replace hX := hX.trans hx5; clear f5 hm5 hx4 hg hrow hx5)
          | fail) <;> (try simp only [Act.put, List.setIfInBounds_toArray, List.set_cons_zero, List.set_cons_succ]))
        refine wp_region_phx (by kernel_rfl) ?_; intro wd hxd; have F9 := f9.ext hxd; have F3 := f3.ext hxd; have H := hT.out.ext (hX.trans hxd)
        refine Ph.rest 0 21 (by kernel_rfl) ?_
        refine LinL.step (s := (.val (.pointer (some ⟨b9, 0, none⟩)))) [(9, none)] rfl (by kernel_rfl) (op_runs rfl fun σ w' hx hg => ⟨_, runs_field (ρ := σ.eval) (w := w') Try.stVt (.tmp 9) b9 0 rfl hg.1 (by omega), rfl⟩) ?_
        refine LinL.step (s := (.val (.int .i64 d.k))) [(17, some 0)] rfl (by kernel_rfl) (op_runs rfl fun σ w' hx hg => ⟨_, runs_fload (ρ := σ.eval) (w := w') (.tmp 17) rfl hg.1 (agg_of (by kernel_rfl) _) (F9.ext hx) rfl, rfl⟩) ?_
        refine LinL.step (s := (.val (.int .i64 k))) [(1, none)] rfl (by kernel_rfl) (op_out 1 (.int .i64 k) rfl (.inl rfl) rfl) ?_
        refine LinL.step (s := (.val (.bool true))) [(18, some 1), (19, some 0)] rfl (by kernel_rfl) (op_runs rfl fun σ w' hx hg => ⟨(.bool true), by have h18 : σ.tmps.getD 18 undef = .int .i64 d.k := hg.1; have h19 : σ.tmps.getD 19 undef = .int .i64 k := hg.2.1; unfold Runs execOp; simp [Act.eval, h18, h19, go_sem, c1], rfl⟩) ?_
        refine LinL.step (s := (.val (.bool true))) [(20, some 0)] rfl (by kernel_rfl) (op_copy 20 0 (.val (.bool true)) rfl (.inl rfl) rfl) ?_
        refine LinL.step (s := (.val (.pointer (some ⟨b9, 1, none⟩)))) [(9, none), (21, some 0)] rfl (by kernel_rfl) (op_yes (reads := [(9, none)]) 4 21 0 true rfl rfl rfl (op_runs rfl fun σ w' hx hg => ⟨_, runs_field (ρ := σ.eval) (w := w') Try.stVt (.tmp 9) b9 1 rfl hg.1 (by omega), rfl⟩)) ?_
        refine LinL.step (s := (.val (.int .i64 d.w))) [(22, some 0), (21, some 1)] rfl (by kernel_rfl) (op_yes (reads := [(22, some 0)]) 4 21 1 true rfl rfl rfl (op_runs rfl fun σ w' hx hg => ⟨_, runs_fload (ρ := σ.eval) (w := w') (.tmp 22) rfl hg.1 (agg_of (by kernel_rfl) _) (F9.ext hx) rfl, rfl⟩)) ?_
        refine LinL.step (s := (.val (.int .i64 v))) [(2, none), (21, some 2)] rfl (by kernel_rfl) (op_yes (reads := [(2, none)]) 4 21 2 true rfl rfl rfl (op_out 2 (.int .i64 v) rfl (.inl rfl) rfl)) ?_
        refine LinL.step (s := (.val (.bool true))) [(23, some 1), (24, some 0), (21, some 3)] rfl (by kernel_rfl) (op_yes (reads := [(23, some 1), (24, some 0)]) 4 21 3 true rfl rfl rfl (op_runs rfl fun σ w' hx hg => ⟨(.bool true), by have h23 : σ.tmps.getD 23 undef = .int .i64 d.w := hg.1; have h24 : σ.tmps.getD 24 undef = .int .i64 v := hg.2.1; unfold Runs execOp; simp [Act.eval, h23, h24, go_sem, c2], rfl⟩)) ?_
        refine LinL.step (s := (.val (.bool true))) [(21, some 4), (25, some 0)] rfl (by kernel_rfl) (op_runs rfl fun σ w' hx hg => ⟨_, runs_pick_t (ρ := σ.eval) (w := w') (.tmp 21) (.tmp 25) (.const (.bool false)) rfl hg.1 hg.2.1, rfl⟩) ?_
        refine LinL.step (s := (.val (.bool true))) [(26, some 0)] rfl (by kernel_rfl) (op_copy 26 0 (.val (.bool true)) rfl (.inl rfl) rfl) ?_
        refine LinL.step (s := (.val (.pointer (some ⟨b3, 0, none⟩)))) [(3, none), (27, some 0)] rfl (by kernel_rfl) (op_yes (reads := [(3, none)]) 10 27 0 true rfl rfl rfl (op_runs rfl fun σ w' hx hg => ⟨_, runs_field (ρ := σ.eval) (w := w') Try.stTy (.tmp 3) b3 0 rfl hg.1 (by omega), rfl⟩)) ?_
        refine LinL.step (s := (.val (sv))) [(28, some 0), (27, some 1)] rfl (by kernel_rfl) (op_yes (reads := [(28, some 0)]) 10 27 1 true rfl rfl rfl (op_runs rfl fun σ w' hx hg => ⟨_, runs_fload (ρ := σ.eval) (w := w') (.tmp 28) rfl hg.1 (agg_of (by kernel_rfl) _) (F3.ext hx) rfl, rfl⟩)) ?_
        refine LinL.step (s := (.val (.agg #[sv, u]))) [(3, none), (27, some 2)] rfl (by kernel_rfl) (op_yes (reads := [(3, none)]) 10 27 2 true rfl rfl rfl (op_runs rfl fun σ w' hx hg => ⟨_, runs_aload (ρ := σ.eval) (w := w') Try.stTy (.tmp 3) rfl hg.1 (F3.ext hx) rfl, rfl⟩)) ?_
        refine LinL.step (s := (.val (.int .i64 k))) [(1, none), (27, some 3)] rfl (by kernel_rfl) (op_yes (reads := [(1, none)]) 10 27 3 true rfl rfl rfl (op_out 1 (.int .i64 k) rfl (.inl rfl) rfl)) ?_
        refine LinL.step (s := (.val (.int .i64 v))) [(2, none), (27, some 4)] rfl (by kernel_rfl) (op_yes (reads := [(2, none)]) 10 27 4 true rfl rfl rfl (op_out 2 (.int .i64 v) rfl (.inl rfl) rfl)) ?_
        refine LinL.step (s := (.val (.pointer (some ⟨b9, 3, none⟩)))) [(9, none), (27, some 5)] rfl (by kernel_rfl) (op_yes (reads := [(9, none)]) 10 27 5 true rfl rfl rfl (op_runs rfl fun σ w' hx hg => ⟨_, runs_field (ρ := σ.eval) (w := w') Try.stVt (.tmp 9) b9 3 rfl hg.1 (by omega), rfl⟩)) ?_
        refine LinL.step (s := (.val (.int .i64 d.x))) [(33, some 0), (27, some 6)] rfl (by kernel_rfl) (op_yes (reads := [(33, some 0)]) 10 27 6 true rfl rfl rfl (op_runs rfl fun σ w' hx hg => ⟨_, runs_fload (ρ := σ.eval) (w := w') (.tmp 33) rfl hg.1 (agg_of (by kernel_rfl) _) (F9.ext hx) rfl, rfl⟩)) ?_
        refine LinL.step (s := (Sp.ints WL)) [(30, some 4), (31, some 3), (32, some 2), (34, some 0), (27, some 7)] rfl (by kernel_rfl) (op_yes (reads := [(30, some 4), (31, some 3), (32, some 2), (34, some 0)]) 10 27 7 true rfl rfl rfl (op_calls 24 #[(.tmp 30), (.tmp 31), (.tmp 32), (.tmp 34)] #[36, 3, 3, 3] (fun σ => #[.agg #[sv, u], .int .i64 k, .int .i64 v, .int .i64 d.x]) rfl rfl (fun _ _ => rfl) fun σ w' hx hg => ⟨by have h30 : σ.tmps.getD 30 undef = .agg #[sv, u] := hg.1; have h31 : σ.tmps.getD 31 undef = .int .i64 k := hg.2.1; have h32 : σ.tmps.getD 32 undef = .int .i64 v := hg.2.2.1; have h34 : σ.tmps.getD 34 undef = .int .i64 d.x := hg.2.2.2.1; simp only [List.map_toArray, List.map_cons, List.map_nil, Act.eval, h30, h31, h32, h34], whoRR (H.ext hx) hlen.out hst.out.2.1 hWL.out⟩)) ?_
        refine LinL.step (s := (.val (.bool false))) [(29, some 6), (35, some 0), (27, some 8)] rfl (by kernel_rfl) (op_yes (reads := [(29, some 6), (35, some 0)]) 10 27 8 true rfl rfl rfl (op_calls 27 #[(.tmp 29), (.tmp 35)] #[24, 24] (fun σ => #[sv, σ.tmps.getD 35 undef]) rfl rfl (fun _ _ => rfl) fun σ w' hx hg => ⟨by have h29 : σ.tmps.getD 29 undef = sv := hg.1; simp only [List.map_toArray, List.map_cons, List.map_nil, Act.eval, h29], rmostR ⟨hst.out, H.1.ext hx, hg.2.1, hws.out.1, hws.out.2⟩ hqm.out⟩)) ?_
        refine LinL.step (s := (.val (.bool false))) [(27, some 9), (36, some 0)] rfl (by kernel_rfl) (op_runs rfl fun σ w' hx hg => ⟨_, runs_pick_t (ρ := σ.eval) (w := w') (.tmp 27) (.tmp 36) (.const (.bool false)) rfl hg.1 hg.2.1, rfl⟩) ?_
        intro wN hxN
        simp only [Fin', Sp.ints, List.reverse_cons, List.reverse_nil, List.nil_append, List.cons_append, List.drop_zero, List.take_succ_cons, List.take_zero]
        intro q35 hq35
        simp only [Act.put, List.setIfInBounds_toArray, List.set_cons_zero, List.set_cons_succ]
        replace f3 := f3.ext (hxd.trans hxN)
        replace hX := hX.trans (hxd.trans hxN)
        go_wp2
        go_roundw
        case rel => exact ⟨i + 1, by go_num, by have := hlt.out; omega, hn.out, f3, hX⟩
        case measure => have := hlt.out; simp [intOf]; omega
      · have hfin := hide_ (show r = some d.x from hr.out.symm.trans ((Tab.mostOf_iff hst.out).2 (hmm.out.2 rfl)))
        go_wp2_with ((first
          | ((with_reducible refine at_idx ?_); refine w_ridx0 (W0 := w) Try.elVt _ _ i VtR.stays rfl rfl rfl rfl hL.out hX hlt.out ?_; rintro pq row hrow hrl hre; obtain ⟨rfl, _⟩ := (congrArg (fun z => VtR w row z) hd.out).mp hre)
          | ((with_reducible refine at_load ?_); refine w_pload Try.stVt _ rfl rfl rfl (hrow.ext hX) hrl ?_)
          | ((with_reducible refine at_alloc ?_); refine w_alloc Try.stVt rfl rfl ?_; intro b9 w4 hg hx4 f9)
          | ((with_reducible refine at_store ?_); refine w_astore Try.stVt (us := vrow d) _ _ rfl rfl rfl rfl rfl f9 rfl rfl (vt_one d) ?_; intro w6 hm5 f5; replace f9 := f5; have hx5 := hm5.after hx4 (fun i e => e ▸ hg); replace f3 := f3.ext hx5; replace hX := hX.trans hx5; clear f5 hm5 hx4 hg hrow hx5)
          | fail) <;> (try simp only [Act.put, List.setIfInBounds_toArray, List.set_cons_zero, List.set_cons_succ]))
        refine wp_region_phx (by kernel_rfl) ?_; intro wd hxd; have F9 := f9.ext hxd; have F3 := f3.ext hxd; have H := hT.out.ext (hX.trans hxd)
        refine Ph.rest 0 21 (by kernel_rfl) ?_
        refine LinL.step (s := (.val (.pointer (some ⟨b9, 0, none⟩)))) [(9, none)] rfl (by kernel_rfl) (op_runs rfl fun σ w' hx hg => ⟨_, runs_field (ρ := σ.eval) (w := w') Try.stVt (.tmp 9) b9 0 rfl hg.1 (by omega), rfl⟩) ?_
        refine LinL.step (s := (.val (.int .i64 d.k))) [(17, some 0)] rfl (by kernel_rfl) (op_runs rfl fun σ w' hx hg => ⟨_, runs_fload (ρ := σ.eval) (w := w') (.tmp 17) rfl hg.1 (agg_of (by kernel_rfl) _) (F9.ext hx) rfl, rfl⟩) ?_
        refine LinL.step (s := (.val (.int .i64 k))) [(1, none)] rfl (by kernel_rfl) (op_out 1 (.int .i64 k) rfl (.inl rfl) rfl) ?_
        refine LinL.step (s := (.val (.bool true))) [(18, some 1), (19, some 0)] rfl (by kernel_rfl) (op_runs rfl fun σ w' hx hg => ⟨(.bool true), by have h18 : σ.tmps.getD 18 undef = .int .i64 d.k := hg.1; have h19 : σ.tmps.getD 19 undef = .int .i64 k := hg.2.1; unfold Runs execOp; simp [Act.eval, h18, h19, go_sem, c1], rfl⟩) ?_
        refine LinL.step (s := (.val (.bool true))) [(20, some 0)] rfl (by kernel_rfl) (op_copy 20 0 (.val (.bool true)) rfl (.inl rfl) rfl) ?_
        refine LinL.step (s := (.val (.pointer (some ⟨b9, 1, none⟩)))) [(9, none), (21, some 0)] rfl (by kernel_rfl) (op_yes (reads := [(9, none)]) 4 21 0 true rfl rfl rfl (op_runs rfl fun σ w' hx hg => ⟨_, runs_field (ρ := σ.eval) (w := w') Try.stVt (.tmp 9) b9 1 rfl hg.1 (by omega), rfl⟩)) ?_
        refine LinL.step (s := (.val (.int .i64 d.w))) [(22, some 0), (21, some 1)] rfl (by kernel_rfl) (op_yes (reads := [(22, some 0)]) 4 21 1 true rfl rfl rfl (op_runs rfl fun σ w' hx hg => ⟨_, runs_fload (ρ := σ.eval) (w := w') (.tmp 22) rfl hg.1 (agg_of (by kernel_rfl) _) (F9.ext hx) rfl, rfl⟩)) ?_
        refine LinL.step (s := (.val (.int .i64 v))) [(2, none), (21, some 2)] rfl (by kernel_rfl) (op_yes (reads := [(2, none)]) 4 21 2 true rfl rfl rfl (op_out 2 (.int .i64 v) rfl (.inl rfl) rfl)) ?_
        refine LinL.step (s := (.val (.bool true))) [(23, some 1), (24, some 0), (21, some 3)] rfl (by kernel_rfl) (op_yes (reads := [(23, some 1), (24, some 0)]) 4 21 3 true rfl rfl rfl (op_runs rfl fun σ w' hx hg => ⟨(.bool true), by have h23 : σ.tmps.getD 23 undef = .int .i64 d.w := hg.1; have h24 : σ.tmps.getD 24 undef = .int .i64 v := hg.2.1; unfold Runs execOp; simp [Act.eval, h23, h24, go_sem, c2], rfl⟩)) ?_
        refine LinL.step (s := (.val (.bool true))) [(21, some 4), (25, some 0)] rfl (by kernel_rfl) (op_runs rfl fun σ w' hx hg => ⟨_, runs_pick_t (ρ := σ.eval) (w := w') (.tmp 21) (.tmp 25) (.const (.bool false)) rfl hg.1 hg.2.1, rfl⟩) ?_
        refine LinL.step (s := (.val (.bool true))) [(26, some 0)] rfl (by kernel_rfl) (op_copy 26 0 (.val (.bool true)) rfl (.inl rfl) rfl) ?_
        refine LinL.step (s := (.val (.pointer (some ⟨b3, 0, none⟩)))) [(3, none), (27, some 0)] rfl (by kernel_rfl) (op_yes (reads := [(3, none)]) 10 27 0 true rfl rfl rfl (op_runs rfl fun σ w' hx hg => ⟨_, runs_field (ρ := σ.eval) (w := w') Try.stTy (.tmp 3) b3 0 rfl hg.1 (by omega), rfl⟩)) ?_
        refine LinL.step (s := (.val (sv))) [(28, some 0), (27, some 1)] rfl (by kernel_rfl) (op_yes (reads := [(28, some 0)]) 10 27 1 true rfl rfl rfl (op_runs rfl fun σ w' hx hg => ⟨_, runs_fload (ρ := σ.eval) (w := w') (.tmp 28) rfl hg.1 (agg_of (by kernel_rfl) _) (F3.ext hx) rfl, rfl⟩)) ?_
        refine LinL.step (s := (.val (.agg #[sv, u]))) [(3, none), (27, some 2)] rfl (by kernel_rfl) (op_yes (reads := [(3, none)]) 10 27 2 true rfl rfl rfl (op_runs rfl fun σ w' hx hg => ⟨_, runs_aload (ρ := σ.eval) (w := w') Try.stTy (.tmp 3) rfl hg.1 (F3.ext hx) rfl, rfl⟩)) ?_
        refine LinL.step (s := (.val (.int .i64 k))) [(1, none), (27, some 3)] rfl (by kernel_rfl) (op_yes (reads := [(1, none)]) 10 27 3 true rfl rfl rfl (op_out 1 (.int .i64 k) rfl (.inl rfl) rfl)) ?_
        refine LinL.step (s := (.val (.int .i64 v))) [(2, none), (27, some 4)] rfl (by kernel_rfl) (op_yes (reads := [(2, none)]) 10 27 4 true rfl rfl rfl (op_out 2 (.int .i64 v) rfl (.inl rfl) rfl)) ?_
        refine LinL.step (s := (.val (.pointer (some ⟨b9, 3, none⟩)))) [(9, none), (27, some 5)] rfl (by kernel_rfl) (op_yes (reads := [(9, none)]) 10 27 5 true rfl rfl rfl (op_runs rfl fun σ w' hx hg => ⟨_, runs_field (ρ := σ.eval) (w := w') Try.stVt (.tmp 9) b9 3 rfl hg.1 (by omega), rfl⟩)) ?_
        refine LinL.step (s := (.val (.int .i64 d.x))) [(33, some 0), (27, some 6)] rfl (by kernel_rfl) (op_yes (reads := [(33, some 0)]) 10 27 6 true rfl rfl rfl (op_runs rfl fun σ w' hx hg => ⟨_, runs_fload (ρ := σ.eval) (w := w') (.tmp 33) rfl hg.1 (agg_of (by kernel_rfl) _) (F9.ext hx) rfl, rfl⟩)) ?_
        refine LinL.step (s := (Sp.ints WL)) [(30, some 4), (31, some 3), (32, some 2), (34, some 0), (27, some 7)] rfl (by kernel_rfl) (op_yes (reads := [(30, some 4), (31, some 3), (32, some 2), (34, some 0)]) 10 27 7 true rfl rfl rfl (op_calls 24 #[(.tmp 30), (.tmp 31), (.tmp 32), (.tmp 34)] #[36, 3, 3, 3] (fun σ => #[.agg #[sv, u], .int .i64 k, .int .i64 v, .int .i64 d.x]) rfl rfl (fun _ _ => rfl) fun σ w' hx hg => ⟨by have h30 : σ.tmps.getD 30 undef = .agg #[sv, u] := hg.1; have h31 : σ.tmps.getD 31 undef = .int .i64 k := hg.2.1; have h32 : σ.tmps.getD 32 undef = .int .i64 v := hg.2.2.1; have h34 : σ.tmps.getD 34 undef = .int .i64 d.x := hg.2.2.2.1; simp only [List.map_toArray, List.map_cons, List.map_nil, Act.eval, h30, h31, h32, h34], whoRR (H.ext hx) hlen.out hst.out.2.1 hWL.out⟩)) ?_
        refine LinL.step (s := (.val (.bool true))) [(29, some 6), (35, some 0), (27, some 8)] rfl (by kernel_rfl) (op_yes (reads := [(29, some 6), (35, some 0)]) 10 27 8 true rfl rfl rfl (op_calls 27 #[(.tmp 29), (.tmp 35)] #[24, 24] (fun σ => #[sv, σ.tmps.getD 35 undef]) rfl rfl (fun _ _ => rfl) fun σ w' hx hg => ⟨by have h29 : σ.tmps.getD 29 undef = sv := hg.1; simp only [List.map_toArray, List.map_cons, List.map_nil, Act.eval, h29], rmostR ⟨hst.out, H.1.ext hx, hg.2.1, hws.out.1, hws.out.2⟩ hqm.out⟩)) ?_
        refine LinL.step (s := (.val (.bool true))) [(27, some 9), (36, some 0)] rfl (by kernel_rfl) (op_runs rfl fun σ w' hx hg => ⟨_, runs_pick_t (ρ := σ.eval) (w := w') (.tmp 27) (.tmp 36) (.const (.bool false)) rfl hg.1 hg.2.1, rfl⟩) ?_
        intro wN hxN
        simp only [Fin', Sp.ints, List.reverse_cons, List.reverse_nil, List.nil_append, List.cons_append, List.drop_zero, List.take_succ_cons, List.take_zero]
        intro q35 hq35
        simp only [Act.put, List.setIfInBounds_toArray, List.set_cons_zero, List.set_cons_succ]
        replace f9 := f9.ext (hxd.trans hxN)
        replace hX := hX.trans (hxd.trans hxN)
        go_wp2_with ((first
          | ((with_reducible refine at_field ?_); refine w_field Try.stVt _ _ _ rfl rfl rfl (by omega) ?_)
          | ((with_reducible refine at_load ?_); refine w_fload _ rfl rfl rfl f9 rfl (agg_of (by kernel_rfl)) ?_)
          | fail) <;> (try simp only [Act.put, List.setIfInBounds_toArray, List.set_cons_zero, List.set_cons_succ]))
        go_ret2
        exact Keep.intro ⟨by rw [hfin.out]; rfl, hX⟩
    · have hfin := hide_ (show r = none from hr.out.symm.trans (mostR_none hst.out (by have := hno.out; rwa [List.take_of_length_le (by omega)] at this)))
      have tl : decide (i < L.length) = false := decide_eq_false hlt0
      clear hlt0 hno
      go_wp2
      go_ret2
      exact Keep.intro ⟨by rw [hfin.out]; rfl, hX⟩
end Go.Proofs.Ytmhmkaginnddeaa
