/- The document's Ahead. -/
import Derived.Test.YtmhmkaginnddeaaTlY
namespace Go.Proofs.Ytmhmkaginnddeaa
set_option maxRecDepth 100000
open Go.RowKit

/-- Who voted in a view or in a greater one, as the document gathers them. -/
def froms (v : Int) (L : List VtD) : List Int := (L.filter fun d => decide (v ≤ d.w)).map (·.f)
theorem froms_step (v : Int) {L : List VtD} {j : Nat} (hj : j < L.length) {e : VtD} (he : L[j] = e) : froms v (L.take (j + 1)) = froms v (L.take j) ++ (if v ≤ e.w then [e.f] else []) := by
  unfold froms
  rw [List.take_add_one, List.getElem?_eq_getElem hj, he, List.filter_append, List.map_append]
  congr 1
  simp only [Option.toList_some, List.filter_cons, List.filter_nil, decide_eq_true_eq]
  split <;> rfl
theorem froms_len (v : Int) (L : List VtD) : (froms v L).length ≤ L.length := by unfold froms; rw [List.length_map]; exact List.length_filter_le _ _
theorem some_froms {t : List Int} {L : List VtD} (hL : ∀ d ∈ L, VtOk t.length d) (v : Int) : some3 t (froms v L) = some3 t (picks ((ofV L).from' v) t.length) := by
  unfold some3
  rw [sum_picks]
  unfold sumS
  rw [ws_congr (p := inn (froms v L)) (q := (ofV L).from' v) t.length fun i _ => by
    rw [Bool.eq_iff_iff, from_iff hL]
    unfold inn froms
    rw [List.any_eq_true]
    constructor
    · rintro ⟨x, hx, he⟩
      obtain ⟨d, hd, rfl⟩ := List.mem_map.1 hx
      obtain ⟨h1, h2⟩ := List.mem_filter.1 hd
      exact ⟨d, h1, of_decide_eq_true h2, by simpa using he⟩
    · rintro ⟨d, hd, h1, h2⟩
      exact ⟨d.f, List.mem_map.2 ⟨d, List.mem_filter.2 ⟨hd, decide_eq_true h1⟩, rfl⟩, by simpa using h2⟩]
/-- Where no vote of that view or a later one is enough, that view isn't, either. -/
theorem ahd_gap {t : List Int} (ht : StOk t) {L : List VtD} (hL : ∀ d ∈ L, VtOk t.length d) : ∀ (n j : Nat), 1001 ≤ j + n → (∀ d ∈ L, (j : Int) ≤ d.w → ¬ (ofV L).Ahd t d.w) → ¬ (ofV L).Ahd t j
  | 0, j, hn, _ => by
    intro ha
    have h0 : picks ((ofV L).from' j) t.length = [] := List.eq_nil_iff_forall_not_mem.2 fun x hx => by
      obtain ⟨i, _, hp, _⟩ := mem_picks.1 hx
      obtain ⟨d, hd, h1, _⟩ := (from_iff hL).1 hp
      have := (hL d hd).2.1
      omega
    have ha' : some3 t (picks ((ofV L).from' j) t.length) = true := ha
    rw [h0] at ha'
    have := tot_pos ht
    unfold some3 sumS at ha'
    have hz : ws t (inn []) t.length = 0 := by
      have : ∀ n, ws t (inn []) n = 0 := fun n => by
        induction n with
        | zero => rfl
        | succ n ih => rw [ws, ih, inn_nil]; simp
      exact this _
    rw [hz] at ha'
    simp only [decide_eq_true_eq] at ha'
    omega
  | n + 1, j, hn, h => by
    by_cases hd : ∃ d ∈ L, d.w = (j : Int)
    · obtain ⟨d, hd, e⟩ := hd
      have := h d hd (by omega)
      rwa [e] at this
    · have ih := ahd_gap ht hL n (j + 1) (by omega) fun d hd h1 => h d hd (by omega)
      intro ha
      refine ih ?_
      have ha' : some3 t (picks ((ofV L).from' j) t.length) = true := ha
      show some3 t (picks ((ofV L).from' ((j + 1 : Nat) : Int)) t.length) = true
      rw [← ha']
      refine some3_congr fun i _ => ?_
      rw [Bool.eq_iff_iff, from_iff hL, from_iff hL]
      constructor
      · rintro ⟨d, h1, h2, h3⟩; exact ⟨d, h1, by omega, h3⟩
      · rintro ⟨d, h1, h2, h3⟩
        have : d.w ≠ (j : Int) := fun e => hd ⟨d, h1, e⟩
        exact ⟨d, h1, by omega, h3⟩
/-- What the document keeps on its way through the votes. -/
def ASt (T : Tab) (t : List Int) (P : List VtD) (view best : Int) : Prop := view ≤ best ∧ (best = view ∨ (T.Ahd t best ∧ 0 ≤ best ∧ best ≤ 1000)) ∧ ∀ d ∈ P, best < d.w → ¬ T.Ahd t d.w
theorem ahead_fin {t : List Int} (ht : StOk t) {L : List VtD} (hL : ∀ d ∈ L, VtOk t.length d) {view best : Int} (h : ASt (ofV L) t L view best) : (ofV L).aheadOf t view = best := by
  obtain ⟨h1, h2, h3⟩ := h
  have hno : ∀ j : Nat, j ≤ 1000 → best < (j : Int) → ¬ (ofV L).Ahd t j := fun j _ hb => ahd_gap ht hL 1001 j (by omega) fun d hd hj => h3 d hd (by omega)
  by_cases e : best = view
  · rw [e] at hno ⊢
    exact Tab.aheadOf_self hno
  · obtain ⟨h4, h5, h6⟩ := h2.resolve_left e
    have hbn : ((best.toNat : Nat) : Int) = best := by omega
    have := Tab.aheadOf_is (g := ofV L) (t := t) (w := view) (m := best.toNat) (by omega) (by omega) (by rw [hbn]; exact h4) fun j hj hlt => hno j hj (by omega)
    rw [this, hbn]
section
variable {T : Tab} {t : List Int} {P P' : List VtD} {view best : Int} {d : VtD}
theorem ASt.skip (h : ASt T t P view best) (hP : ∀ x ∈ P', x ∈ P ∨ x = d) (hd : ¬ best < d.w ∨ ¬ T.Ahd t d.w) : ASt T t P' view best :=
  ⟨h.1, h.2.1, fun x hx hb => (hP x hx).elim (fun hm => h.2.2 x hm hb) fun e => by rw [e] at hb ⊢; exact hd.resolve_left fun hn => hn hb⟩
theorem ASt.take (h : ASt T t P view best) (hP : ∀ x ∈ P', x ∈ P ∨ x = d) (hw : 0 ≤ d.w ∧ d.w ≤ 1000) (hb : best < d.w) (hd : T.Ahd t d.w) : ASt T t P' view d.w :=
  ⟨by have := h.1; omega, .inr ⟨hd, hw⟩, fun x hx hb2 => (hP x hx).elim (fun hm => h.2.2 x hm (by omega)) fun e => by rw [e] at hb2; omega⟩
end

set_option maxRecDepth 100000 in
set_option maxHeartbeats 6400000 in
theorem AheadR_any {w : World} {sv u : Value} {t : List Int} {L : List VtD} {view : Int} (h : Ty w sv u t L) (hlen0 : L.length ≤ 100000) (ht : StOk t) (hok : ∀ d ∈ L, VtOk t.length d) {r : Int} (hr0 : (ofV L).aheadOf t view = r) :
    Calls Try.prog 21 #[.agg #[sv, u], .int .i64 view] w fun e w' => e = .returned (.int .i64 r) ∧ Ext w w' := by
  refine calls_keep ?_
  have hT := hide_ h
  have hL := hide_ (show Recs 4 VtR w u L from h.2)
  have hlen := hide_ hlen0
  have hst := hide_ ht
  have hr := hide_ hr0
  have hvok := hide_ hok
  have hfit := hide_ h.2.fit
  have hX := Ext.refl w
  clear h hlen0 ht hr0 hok
  go_enter Try.func21, Try.ntmps21
  go_wp2_with ((first
    | ((with_reducible refine at_box ?_); refine w_box _ [sv, u] rfl rfl rfl rfl ?_; intro b2 w1 hb4 hx f2; replace hX := hX.trans hx; clear hx)
    | ((with_reducible refine at_field ?_); refine w_field Try.stTy _ _ _ rfl rfl rfl (by omega) ?_)
    | ((with_reducible refine at_load ?_); refine w_fload _ rfl rfl rfl f2 rfl (agg_of (by kernel_rfl)) ?_)
    | ((with_reducible refine at_bi ?_); refine w_rlen Try.elVt _ rfl rfl rfl (hL.out.ext VtR.stays hX) ?_)
    | fail) <;> (try simp only [Act.put, List.setIfInBounds_toArray, List.set_cons_zero, List.set_cons_succ]))
  go_loopw [15, 5] (fun u15 u5 wr => ∃ (i : Nat) (best : Int), u15 = .int .i64 i ∧ u5 = .int .i64 best ∧ i ≤ L.length ∧ Hid (ASt (ofV L) t (L.take i) view best) ∧ Fs wr b2 [sv, u] ∧ Ext w wr) (fun i _ _ => L.length - (intOf i).toNat)
  case atStart => exact ⟨0, view, rfl, rfl, Nat.zero_le _, ⟨Int.le_refl _, .inl rfl, fun d hd => nomatch hd⟩, f2, hX⟩
  case round =>
    clear hX f2
    obtain ⟨i, best, rfl, rfl, hi, hcs, f2, hX⟩ := hrel
    by_cases hlt0 : i < L.length
    · have hlt := hide_ hlt0
      have tl : decide (i < L.length) = true := decide_eq_true hlt0
      have hi7 : i ≤ 100000 := by have := hlen.out; omega
      obtain ⟨d, hd0⟩ : ∃ d, L[i] = d := ⟨_, rfl⟩
      have hd := hide_ hd0
      have hdw := hide_ (hd0 ▸ (hvok.out _ (List.getElem_mem hlt0)).2.1 : 0 ≤ d.w ∧ d.w ≤ 1000)
      have hP := hide_ (mem_takeD hlt0 hd0)
      clear hd0 hlt0
      go_wp2_with ((first
        | ((with_reducible refine at_idx ?_); refine w_ridx0 (W0 := w) Try.elVt _ _ i VtR.stays rfl rfl rfl rfl hL.out hX hlt.out ?_; rintro pq row hrow hrl hre; obtain ⟨rfl, _⟩ := (congrArg (fun z => VtR w row z) hd.out).mp hre)
        | ((with_reducible refine at_load ?_); refine w_pload Try.stVt _ rfl rfl rfl (hrow.ext hX) hrl ?_)
        | ((with_reducible refine at_alloc ?_); refine w_alloc (o := ⟨some 7, _, _, _, _, _⟩) Try.stVt rfl rfl ?_; intro b7 w4 hg hx4 f7)
        | ((with_reducible refine at_store ?_); refine w_astore Try.stVt (us := vrow d) _ _ rfl rfl rfl rfl rfl f7 rfl rfl (vt_one d) ?_; intro w6 hm5 f5; replace f7 := f5; have hx5 := hm5.after hx4 (fun i e => e ▸ hg); replace f2 := f2.ext hx5; replace hX := hX.trans hx5; have h27 := hide_ (show b2 < w6.heap.size ∧ b7 < w6.heap.size from ⟨f2.lt, f7.lt⟩); clear f5 hm5 hx4 hg hrow hx5)
        | ((with_reducible refine at_lit ?_); refine w_new Try.elI (i64s []) rfl rfl rfl (i64s_cells _) rfl (by omega) ?_; intro v19 w7 hx o8; replace o8 : OwnI w6.heap.size w7 v19 [] := o8; replace f2 := f2.ext hx; replace f7 := f7.ext hx; have hs7 := hide_ hx.size; have hw6 := hide_ hX.size; replace hX := hX.trans hx; clear hx)
        | ((with_reducible refine at_field ?_); refine w_field Try.stTy _ _ _ rfl rfl rfl (by omega) ?_)
        | ((with_reducible refine at_load ?_); refine w_fload _ rfl rfl rfl f2 rfl (agg_of (by kernel_rfl)) ?_)
        | ((with_reducible refine at_bi ?_); refine w_rlen Try.elVt _ rfl rfl rfl (hL.out.ext VtR.stays hX) ?_)
        | fail) <;> (try simp only [Act.put, List.setIfInBounds_toArray, List.set_cons_zero, List.set_cons_succ]))
      go_loopw [23, 8] (fun u23 u8 w9 => ∃ j : Nat, u23 = .int .i64 j ∧ j ≤ L.length ∧ OwnI w6.heap.size w9 u8 (froms d.w (L.take j)) ∧ Fs w9 b2 [sv, u] ∧ Fs w9 b7 (vrow d) ∧ Hid (w6.heap.size ≤ w9.heap.size) ∧ Ext w w9) (fun j _ _ => L.length - (intOf j).toNat)
      case atStart => exact ⟨0, rfl, Nat.zero_le _, o8, f2, f7, hs7.out, hX⟩
      case round =>
        clear hX o8 f2 f7
        obtain ⟨j, rfl, hj, o8, f2, f7, hws, hX⟩ := hrel
        by_cases hlt1 : j < L.length
        · have hltj := hide_ hlt1
          have tl2 : decide (j < L.length) = true := decide_eq_true hlt1
          have hj7 : j ≤ 100000 := by have := hlen.out; omega
          obtain ⟨x, hx0⟩ : ∃ x, L[j] = x := ⟨_, rfl⟩
          have hxx := hide_ hx0
          have hstep := hide_ (froms_step d.w hlt1 hx0)
          obtain ⟨M, hM0⟩ : ∃ M, froms d.w (L.take j) = M := ⟨_, rfl⟩
          have hMl := hide_ (show M.length ≤ 100000 from by rw [← hM0]; have h1 := froms_len d.w (L.take j); have h2 := List.length_take_le j L; omega)
          rw [hM0] at o8 hstep
          clear hx0 hlt1 hM0
          cases c1 : decide (d.w ≤ x.w)
          · have hb := hide_ (show froms d.w (L.take (j + 1)) = M from by rw [hstep.out, if_neg (of_decide_eq_false c1), List.append_nil])
            go_wp2_with ((first
              | ((with_reducible refine at_idx ?_); refine w_ridx0 (W0 := w) Try.elVt _ _ j VtR.stays rfl rfl rfl rfl hL.out hX hltj.out ?_; rintro pq row hrow hrl hre; obtain ⟨rfl, _⟩ := (congrArg (fun z => VtR w row z) hxx.out).mp hre)
              | ((with_reducible refine at_load ?_); refine w_pload Try.stVt _ rfl rfl rfl (hrow.ext hX) hrl ?_)
              | ((with_reducible refine at_alloc ?_); refine w_alloc (o := ⟨some 10, _, _, _, _, _⟩) Try.stVt rfl rfl ?_; intro b10 w4 hg hx4 f10)
              | ((with_reducible refine at_store ?_); refine w_astore Try.stVt (us := vrow x) _ _ rfl rfl rfl rfl rfl f10 rfl rfl (vt_one x) ?_; intro wa hm5 f5; replace f10 := f5; have hx5 := hm5.after hx4 (fun i e => e ▸ hg); replace f2 := f2.ext hx5; replace f7 := f7.ext hx5; replace o8 := o8.ext hx5; replace hws := hide_ (Nat.le_trans hws.out hx5.size); replace hX := hX.trans hx5; clear f5 hm5 hx4 hg hrow hx5)
              | ((with_reducible refine at_field ?_); refine w_field Try.stVt _ _ _ rfl rfl rfl (by omega) ?_)
              | ((with_reducible refine at_load ?_); refine w_fload _ rfl rfl rfl f10 rfl (agg_of (by kernel_rfl)) ?_)
              | ((with_reducible refine at_load ?_); refine w_fload _ rfl rfl rfl f7 rfl (agg_of (by kernel_rfl)) ?_)
              | fail) <;> (try simp only [Act.put, List.setIfInBounds_toArray, List.set_cons_zero, List.set_cons_succ]))
            go_roundw
            case rel => exact ⟨j + 1, by go_num, by have := hltj.out; omega, by rw [hb.out]; exact o8, f2, f7, hws, hX⟩
            case measure => have := hltj.out; simp [intOf]; omega
          · have hb := hide_ (show froms d.w (L.take (j + 1)) = M ++ [x.f] from by rw [hstep.out, if_pos (of_decide_eq_true c1)])
            go_wp2_with ((first
              | ((with_reducible refine at_idx ?_); refine w_ridx0 (W0 := w) Try.elVt _ _ j VtR.stays rfl rfl rfl rfl hL.out hX hltj.out ?_; rintro pq row hrow hrl hre; obtain ⟨rfl, _⟩ := (congrArg (fun z => VtR w row z) hxx.out).mp hre)
              | ((with_reducible refine at_load ?_); refine w_pload Try.stVt _ rfl rfl rfl (hrow.ext hX) hrl ?_)
              | ((with_reducible refine at_alloc ?_); refine w_alloc (o := ⟨some 10, _, _, _, _, _⟩) Try.stVt rfl rfl ?_; intro b10 w4 hg hx4 f10)
              | ((with_reducible refine at_store ?_); refine w_astore Try.stVt (us := vrow x) _ _ rfl rfl rfl rfl rfl f10 rfl rfl (vt_one x) ?_; intro wa hm5 f5; replace f10 := f5; have hx5 := hm5.after hx4 (fun i e => e ▸ hg); replace f2 := f2.ext hx5; replace f7 := f7.ext hx5; replace o8 := o8.ext hx5; replace hws := hide_ (Nat.le_trans hws.out hx5.size); replace hX := hX.trans hx5; clear f5 hm5 hx4 hg hrow hx5)
              | ((with_reducible refine at_field ?_); refine w_field Try.stVt _ _ _ rfl rfl rfl (by omega) ?_)
              | ((with_reducible refine at_load ?_); refine w_fload _ rfl rfl rfl f10 rfl (agg_of (by kernel_rfl)) ?_)
              | ((with_reducible refine at_load ?_); refine w_fload _ rfl rfl rfl f7 rfl (agg_of (by kernel_rfl)) ?_)
              | ((with_reducible refine at_lit ?_); refine w_new Try.elI (i64s [x.f]) rfl rfl rfl (i64s_cells _) rfl (by omega) ?_; intro v35 wb hx o35; replace o35 : OwnI _ wb v35 [x.f] := o35; replace f2 := f2.ext hx; replace f7 := f7.ext hx; replace o8 := o8.ext hx; replace hws := hide_ (Nat.le_trans hws.out hx.size); replace hX := hX.trans hx; clear hx)
              | ((with_reducible refine at_bi ?_); refine appi _ _ rfl rfl rfl rfl o8 o35.ints (by have := hMl.out; simp; omega) hws.out ?_; intro v36 wc o36 hb3 _ _; replace f2 := f2.below hb3 h27.out.1; replace f7 := f7.below hb3 h27.out.2; replace hws := hide_ (Nat.le_trans hws.out hb3.size); replace hX := hX.trans' (hb3.mono hw6.out); clear hb3 o8 o35)
              | fail) <;> (try simp only [Act.put, List.setIfInBounds_toArray, List.set_cons_zero, List.set_cons_succ]))
            go_roundw
            case rel => exact ⟨j + 1, by go_num, by have := hltj.out; omega, by rw [hb.out]; exact o36, f2, f7, hws, hX⟩
            case measure => have := hltj.out; simp [intOf]; omega
        · have tl2 : decide (j < L.length) = false := decide_eq_false hlt1
          rw [List.take_of_length_le (by omega)] at o8
          have hsm := hide_ (show some3 t (froms d.w L) = true ↔ (ofV L).Ahd t d.w from by rw [some_froms hvok.out]; exact Iff.rfl)
          have hi64 := hide_ (show I64s (froms d.w L) from fun x hx => by
            obtain ⟨e, he, rfl⟩ := List.mem_map.1 hx
            exact (hfit.out e (List.mem_filter.1 he).1).f)
          have hll := hide_ (show (froms d.w L).length * 8 ≤ 140737488351232 from by have h1 := froms_len d.w L; have h2 := hlen.out; omega)
          obtain ⟨W, hW0⟩ : ∃ W, froms d.w L = W := ⟨_, rfl⟩
          rw [hW0] at o8 hsm hi64 hll
          clear hlt1 hW0
          cases c2 : decide (best < d.w)
          · have hn := hide_ (hcs.out.skip hP.out (.inl (of_decide_eq_false c2)))
            go_wp2_with ((first
              | go_big_skip
              | ((with_reducible refine at_field ?_); (try refine w_yes _ _ _ rfl rfl rfl ?_); refine w_field Try.stVt _ _ _ rfl rfl rfl (by omega) ?_)
              | ((with_reducible refine at_field ?_); (try refine w_yes _ _ _ rfl rfl rfl ?_); refine w_field Try.stTy _ _ _ rfl rfl rfl (by omega) ?_)
              | ((with_reducible refine at_load ?_); (try refine w_yes _ _ _ rfl rfl rfl ?_); refine w_fload _ rfl rfl rfl f7 rfl (agg_of (by kernel_rfl)) ?_)
              | ((with_reducible refine at_load ?_); (try refine w_yes _ _ _ rfl rfl rfl ?_); refine w_fload _ rfl rfl rfl f2 rfl (agg_of (by kernel_rfl)) ?_)
              | fail) <;> (try simp only [Act.put, List.setIfInBounds_toArray, List.set_cons_zero, List.set_cons_succ]))
            go_roundw
            case rel => exact ⟨i + 1, best, by go_num, rfl, by have := hlt.out; omega, hn.out, f2, hX⟩
            case measure => have := hlt.out; simp [intOf]; omega
          · obtain ⟨qm, hqm0⟩ : ∃ qm, some3 t W = qm := ⟨_, rfl⟩
            have hqm := hide_ hqm0
            clear hqm0
            cases qm
            · have hn := hide_ (hcs.out.skip hP.out (.inr fun h => by have := hsm.out.2 h; rw [hqm.out] at this; cases this))
              go_wp2_with ((first
                | go_big_skip
                | ((with_reducible refine at_field ?_); (try refine w_yes _ _ _ rfl rfl rfl ?_); refine w_field Try.stVt _ _ _ rfl rfl rfl (by omega) ?_)
                | ((with_reducible refine at_field ?_); (try refine w_yes _ _ _ rfl rfl rfl ?_); refine w_field Try.stTy _ _ _ rfl rfl rfl (by omega) ?_)
                | ((with_reducible refine at_load ?_); (try refine w_yes _ _ _ rfl rfl rfl ?_); refine w_fload _ rfl rfl rfl f7 rfl (agg_of (by kernel_rfl)) ?_)
                | ((with_reducible refine at_load ?_); (try refine w_yes _ _ _ rfl rfl rfl ?_); refine w_fload _ rfl rfl rfl f2 rfl (agg_of (by kernel_rfl)) ?_)
                | (go_at_call 28; refine (rsomeR ⟨hst.out, hT.out.1.ext hX, o8.ints, hi64.out, hll.out⟩ hqm.out).mono ?_; rintro e w7 ⟨z, rfl, hx, hz⟩; replace hz : z = .bool false := hz; subst hz; replace f2 := f2.ext hx; replace f7 := f7.ext hx; replace hX := hX.trans hx; clear hx)
                | fail) <;> (try simp only [Act.put, List.setIfInBounds_toArray, List.set_cons_zero, List.set_cons_succ]))
              go_roundw
              case rel => exact ⟨i + 1, best, by go_num, rfl, by have := hlt.out; omega, hn.out, f2, hX⟩
              case measure => have := hlt.out; simp [intOf]; omega
            · have hn := hide_ (hcs.out.take hP.out hdw.out (of_decide_eq_true c2) (hsm.out.1 hqm.out))
              go_wp2_with ((first
                | go_big_skip
                | ((with_reducible refine at_field ?_); (try refine w_yes _ _ _ rfl rfl rfl ?_); refine w_field Try.stVt _ _ _ rfl rfl rfl (by omega) ?_)
                | ((with_reducible refine at_field ?_); (try refine w_yes _ _ _ rfl rfl rfl ?_); refine w_field Try.stTy _ _ _ rfl rfl rfl (by omega) ?_)
                | ((with_reducible refine at_load ?_); (try refine w_yes _ _ _ rfl rfl rfl ?_); refine w_fload _ rfl rfl rfl f7 rfl (agg_of (by kernel_rfl)) ?_)
                | ((with_reducible refine at_load ?_); (try refine w_yes _ _ _ rfl rfl rfl ?_); refine w_fload _ rfl rfl rfl f2 rfl (agg_of (by kernel_rfl)) ?_)
                | (go_at_call 28; refine (rsomeR ⟨hst.out, hT.out.1.ext hX, o8.ints, hi64.out, hll.out⟩ hqm.out).mono ?_; rintro e w7 ⟨z, rfl, hx, hz⟩; replace hz : z = .bool true := hz; subst hz; replace f2 := f2.ext hx; replace f7 := f7.ext hx; replace hX := hX.trans hx; clear hx)
                | fail) <;> (try simp only [Act.put, List.setIfInBounds_toArray, List.set_cons_zero, List.set_cons_succ]))
              go_roundw
              case rel => exact ⟨i + 1, d.w, by go_num, rfl, by have := hlt.out; omega, hn.out, f2, hX⟩
              case measure => have := hlt.out; simp [intOf]; omega
    · have hfin := hide_ (show best = r from (ahead_fin hst.out hvok.out (by have := hcs.out; rwa [List.take_of_length_le (by omega)] at this)).symm.trans hr.out)
      have tl : decide (i < L.length) = false := decide_eq_false hlt0
      clear hlt0 hcs
      go_wp2
      go_ret
      exact Keep.intro ⟨by rw [hfin.out]; rfl, hX⟩
end Go.Proofs.Ytmhmkaginnddeaa
