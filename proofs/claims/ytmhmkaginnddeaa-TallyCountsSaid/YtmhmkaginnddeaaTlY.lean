/- The document's Committed. -/
import Derived.Test.YtmhmkaginnddeaaTlX
namespace Go.Proofs.Ytmhmkaginnddeaa
set_option maxRecDepth 100000
open Go.RowKit

/-- What the document keeps on its way through the votes. -/
def CSt (T : Tab) (t : List Int) (P : List VtD) (best value : Int) : Prop :=
  (best = -1 ∧ value = 0 ∧ ∀ d ∈ P, T.commAt t d.w.toNat = none) ∨ (0 ≤ best ∧ best ≤ 1000 ∧ T.commAt t best.toNat = some value ∧ ∀ d ∈ P, T.commAt t d.w.toNat ≠ none → best ≤ d.w)
theorem comm_at_mem {t : List Int} (ht : StOk t) {L : List VtD} {j : Nat} (h : (ofV L).commAt t j ≠ none) : ∃ d ∈ L, d.w = (j : Int) := by
  cases hc : (ofV L).commAt t j with
  | none => exact absurd hc h
  | some x =>
    obtain ⟨i, _, hi⟩ := ((Tab.commAt_iff ht).1 hc).1.one ht
    obtain ⟨d, hd, _, e2, _, _⟩ := ofV_mem hi
    exact ⟨d, hd, e2⟩
theorem comm_fin {t : List Int} (ht : StOk t) {L : List VtD} {best value : Int} (h : CSt (ofV L) t L best value) : ((ofV L).commOf t).getD 0 = value ∧ ((ofV L).commOf t).isSome = decide (0 ≤ best) := by
  rcases h with ⟨rfl, rfl, h3⟩ | ⟨h1, h2, h3, h4⟩
  · have : (ofV L).commOf t = none := comm_none fun j _ => by
      cases hc : (ofV L).commAt t j with
      | none => rfl
      | some x =>
        obtain ⟨d, hd, e⟩ := comm_at_mem ht (L := L) (j := j) (by rw [hc]; simp)
        have := h3 d hd
        rw [e, Int.toNat_natCast, hc] at this
        cases this
    rw [this]
    exact ⟨rfl, rfl⟩
  · have : (ofV L).commOf t = some value := Tab.commOf_first (j := best.toNat) (by omega) h3 fun i hi => by
      cases hc : (ofV L).commAt t i with
      | none => rfl
      | some x =>
        obtain ⟨d, hd, e⟩ := comm_at_mem ht (L := L) (j := i) (by rw [hc]; simp)
        have := h4 d hd (by rw [e, Int.toNat_natCast, hc]; simp)
        omega
    rw [this]
    exact ⟨rfl, (decide_eq_true h1).symm⟩
section
variable {T : Tab} {t : List Int} {P P' : List VtD} {best value : Int} {d : VtD}
theorem CSt.skip (h : CSt T t P best value) (hP : ∀ x ∈ P', x ∈ P ∨ x = d) (hd : T.commAt t d.w.toNat = none) : CSt T t P' best value := by
  rcases h with ⟨h1, h2, h3⟩ | ⟨h1, h2, h3, h4⟩
  · exact .inl ⟨h1, h2, fun x hx => (hP x hx).elim (h3 x) fun e => by rw [e]; exact hd⟩
  · exact .inr ⟨h1, h2, h3, fun x hx hn => (hP x hx).elim (fun h => h4 x h hn) fun e => absurd hd (by rw [← e]; exact hn)⟩
theorem CSt.keep (h : CSt T t P best value) (hP : ∀ x ∈ P', x ∈ P ∨ x = d) (hb : ¬ best < 0) (hd : ¬ d.w < best) : CSt T t P' best value := by
  rcases h with ⟨h1, _, _⟩ | ⟨h1, h2, h3, h4⟩
  · omega
  · exact .inr ⟨h1, h2, h3, fun x hx hn => (hP x hx).elim (fun h => h4 x h hn) fun e => by rw [e]; omega⟩
theorem CSt.take (h : CSt T t P best value) (hP : ∀ x ∈ P', x ∈ P ∨ x = d) (hw : 0 ≤ d.w ∧ d.w ≤ 1000) {x : Int} (hd : T.commAt t d.w.toNat = some x) (hb : best < 0 ∨ d.w < best) : CSt T t P' d.w x := by
  refine .inr ⟨hw.1, hw.2, hd, fun y hy hn => (hP y hy).elim (fun hm => ?_) fun e => by rw [e]; omega⟩
  rcases h with ⟨_, _, h3⟩ | ⟨h1, _, _, h4⟩
  · exact absurd (h3 y hm) hn
  · have := h4 y hm hn; omega
end
theorem mem_takeD {l : List VtD} {j : Nat} (hj : j < l.length) {e : VtD} (he : l[j] = e) : ∀ x ∈ l.take (j + 1), x ∈ l.take j ∨ x = e := by
  intro x hx
  rwa [List.take_add_one, List.getElem?_eq_getElem hj, he, List.mem_append, Option.toList_some, List.mem_singleton] at hx

set_option maxRecDepth 100000 in
set_option maxHeartbeats 6400000 in
theorem CommR_any {w : World} {sv u : Value} {t : List Int} {L : List VtD} (h : Ty w sv u t L) (hlen0 : L.length ≤ 100000) (ht : StOk t) (hok : ∀ d ∈ L, 0 ≤ d.w ∧ d.w ≤ 1000) {r : Option Int} (hr0 : (ofV L).commOf t = r) :
    Calls Try.prog 20 #[.agg #[sv, u]] w fun e w' => e = .returned (.tuple #[.int .i64 (r.getD 0), .bool r.isSome]) ∧ Ext w w' := by
  refine calls_keep ?_
  have hT := hide_ h
  have hL := hide_ (show Recs 4 VtR w u L from h.2)
  have hlen := hide_ hlen0
  have hst := hide_ ht
  have hr := hide_ hr0
  have hwok := hide_ hok
  have hX := Ext.refl w
  clear h hlen0 ht hr0 hok
  go_enter Try.func20, Try.ntmps20
  go_wp2_with ((first
    | ((with_reducible refine at_box ?_); refine w_box _ [sv, u] rfl rfl rfl rfl ?_; intro b3 w1 hb4 hx f3; replace hX := hX.trans hx; clear hx)
    | ((with_reducible refine at_field ?_); refine w_field Try.stTy _ _ _ rfl rfl rfl (by omega) ?_)
    | ((with_reducible refine at_load ?_); refine w_fload _ rfl rfl rfl f3 rfl (agg_of (by kernel_rfl)) ?_)
    | ((with_reducible refine at_bi ?_); refine w_rlen Try.elVt _ rfl rfl rfl (hL.out.ext VtR.stays hX) ?_)
    | fail) <;> (try simp only [Act.put, List.setIfInBounds_toArray, List.set_cons_zero, List.set_cons_succ]))
  go_loopw [13, 4, 5] (fun u13 u4 u5 wr => ∃ (i : Nat) (best value : Int), u13 = .int .i64 i ∧ u4 = .int .i64 best ∧ u5 = .int .i64 value ∧ i ≤ L.length ∧ Hid (CSt (ofV L) t (L.take i) best value) ∧ Fs wr b3 [sv, u] ∧ Ext w wr) (fun i _ _ _ => L.length - (intOf i).toNat)
  case atStart => exact ⟨0, -1, 0, rfl, rfl, rfl, Nat.zero_le _, .inl ⟨rfl, rfl, fun d hd => nomatch hd⟩, f3, hX⟩
  case round =>
    clear hX f3
    obtain ⟨i, best, value, rfl, rfl, rfl, hi, hcs, f3, hX⟩ := hrel
    by_cases hlt0 : i < L.length
    · have hlt := hide_ hlt0
      have tl : decide (i < L.length) = true := decide_eq_true hlt0
      have hi7 : i ≤ 100000 := by have := hlen.out; omega
      obtain ⟨d, hd0⟩ : ∃ d, L[i] = d := ⟨_, rfl⟩
      have hd := hide_ hd0
      have hdw := hide_ (hd0 ▸ hwok.out _ (List.getElem_mem hlt0) : 0 ≤ d.w ∧ d.w ≤ 1000)
      have hP := hide_ (mem_takeD hlt0 hd0)
      obtain ⟨r1, hr10⟩ : ∃ r1, (ofV L).mostOf t 5 d.w = r1 := ⟨_, rfl⟩
      have hr1 := hide_ hr10
      have hat := hide_ (show (ofV L).commAt t d.w.toNat = commV r1 from commAt_of (by rw [Int.toNat_of_nonneg hdw.out.1]; exact hr10))
      clear hd0 hlt0 hr10
      cases r1 with
      | none =>
            have hn := hide_ (hcs.out.skip hP.out hat.out)
            clear hcs
            go_wp2_with ((first
              | go_big_skip
              | ((with_reducible refine at_idx ?_); refine w_ridx0 (W0 := w) Try.elVt _ _ i VtR.stays rfl rfl rfl rfl hL.out hX hlt.out ?_; rintro pq row hrow hrl hre; obtain ⟨rfl, _⟩ := (congrArg (fun z => VtR w row z) hd.out).mp hre)
              | ((with_reducible refine at_load ?_); refine w_pload Try.stVt _ rfl rfl rfl (hrow.ext hX) hrl ?_)
              | ((with_reducible refine at_alloc ?_); refine w_alloc Try.stVt rfl rfl ?_; intro b9 w4 hg hx4 f9)
              | ((with_reducible refine at_store ?_); refine w_astore Try.stVt (us := vrow d) _ _ rfl rfl rfl rfl rfl f9 rfl rfl (vt_one d) ?_; intro w6 hm5 f5; replace f9 := f5; have hx5 := hm5.after hx4 (fun i e => e ▸ hg); replace f3 := f3.ext hx5; replace hX := hX.trans hx5; clear f5 hm5 hx4 hg hrow hx5)
              | ((with_reducible refine at_load ?_); refine w_aload Try.stTy _ rfl rfl rfl f3 rfl ?_)
              | ((with_reducible refine at_field ?_); (try refine w_yes _ _ _ rfl rfl rfl ?_); refine w_field Try.stVt _ _ _ rfl rfl rfl (by omega) ?_)
              | ((with_reducible refine at_load ?_); (try refine w_yes _ _ _ rfl rfl rfl ?_); refine w_fload _ rfl rfl rfl f9 rfl (agg_of (by kernel_rfl)) ?_)
              | (go_at_call 19; refine (MostR_any (hT.out.ext hX) hlen.out hst.out hr1.out).mono ?_; rintro e w7 ⟨he, hx⟩; replace he : e = .returned (.tuple #[.int .i64 0, .bool false]) := he; subst he; replace f3 := f3.ext hx; replace f9 := f9.ext hx; replace hX := hX.trans hx; clear hx)
              | ((with_reducible refine at_ext ?_); refine wpList_runs rfl (runs_extract rfl rfl rfl) ?_; simp only [List.getElem_toArray, List.getElem_cons_succ, List.getElem_cons_zero])
              | fail) <;> (try simp only [Act.put, List.setIfInBounds_toArray, List.set_cons_zero, List.set_cons_succ]))
            go_roundw
            case rel => exact ⟨i + 1, best, value, by go_num, rfl, rfl, by have := hlt.out; omega, hn.out, f3, hX⟩
            case measure => have := hlt.out; simp [intOf]; omega
      | some x =>
        cases c1 : (x != -1)
        · have hn := hide_ (hcs.out.skip hP.out (hat.out.trans (if_pos (by simpa using c1))))
          clear hcs
          skip
          · go_wp2_with ((first
              | go_big_skip
              | ((with_reducible refine at_idx ?_); refine w_ridx0 (W0 := w) Try.elVt _ _ i VtR.stays rfl rfl rfl rfl hL.out hX hlt.out ?_; rintro pq row hrow hrl hre; obtain ⟨rfl, _⟩ := (congrArg (fun z => VtR w row z) hd.out).mp hre)
              | ((with_reducible refine at_load ?_); refine w_pload Try.stVt _ rfl rfl rfl (hrow.ext hX) hrl ?_)
              | ((with_reducible refine at_alloc ?_); refine w_alloc Try.stVt rfl rfl ?_; intro b9 w4 hg hx4 f9)
              | ((with_reducible refine at_store ?_); refine w_astore Try.stVt (us := vrow d) _ _ rfl rfl rfl rfl rfl f9 rfl rfl (vt_one d) ?_; intro w6 hm5 f5; replace f9 := f5; have hx5 := hm5.after hx4 (fun i e => e ▸ hg); replace f3 := f3.ext hx5; replace hX := hX.trans hx5; clear f5 hm5 hx4 hg hrow hx5)
              | ((with_reducible refine at_load ?_); refine w_aload Try.stTy _ rfl rfl rfl f3 rfl ?_)
              | ((with_reducible refine at_field ?_); (try refine w_yes _ _ _ rfl rfl rfl ?_); refine w_field Try.stVt _ _ _ rfl rfl rfl (by omega) ?_)
              | ((with_reducible refine at_load ?_); (try refine w_yes _ _ _ rfl rfl rfl ?_); refine w_fload _ rfl rfl rfl f9 rfl (agg_of (by kernel_rfl)) ?_)
              | (go_at_call 19; refine (MostR_any (hT.out.ext hX) hlen.out hst.out hr1.out).mono ?_; rintro e w7 ⟨he, hx⟩; replace he : e = .returned (.tuple #[.int .i64 x, .bool true]) := he; subst he; replace f3 := f3.ext hx; replace f9 := f9.ext hx; replace hX := hX.trans hx; clear hx)
              | ((with_reducible refine at_ext ?_); refine wpList_runs rfl (runs_extract rfl rfl rfl) ?_; simp only [List.getElem_toArray, List.getElem_cons_succ, List.getElem_cons_zero])
              | fail) <;> (try simp only [Act.put, List.setIfInBounds_toArray, List.set_cons_zero, List.set_cons_succ]))
            go_roundw
            case rel => exact ⟨i + 1, best, value, by go_num, rfl, rfl, by have := hlt.out; omega, hn.out, f3, hX⟩
            case measure => have := hlt.out; simp [intOf]; omega
        · have hs := hide_ (show (ofV L).commAt t d.w.toNat = some x from hat.out.trans (if_neg (by simpa using c1)))
          cases c2 : decide (best < 0)
          · cases c3 : decide (d.w < best)
            · have hn := hide_ (hcs.out.keep hP.out (of_decide_eq_false c2) (of_decide_eq_false c3))
              clear hcs
              skip
              go_wp2_with ((first
                | go_big_skip
                | ((with_reducible refine at_idx ?_); refine w_ridx0 (W0 := w) Try.elVt _ _ i VtR.stays rfl rfl rfl rfl hL.out hX hlt.out ?_; rintro pq row hrow hrl hre; obtain ⟨rfl, _⟩ := (congrArg (fun z => VtR w row z) hd.out).mp hre)
                | ((with_reducible refine at_load ?_); refine w_pload Try.stVt _ rfl rfl rfl (hrow.ext hX) hrl ?_)
                | ((with_reducible refine at_alloc ?_); refine w_alloc Try.stVt rfl rfl ?_; intro b9 w4 hg hx4 f9)
                | ((with_reducible refine at_store ?_); refine w_astore Try.stVt (us := vrow d) _ _ rfl rfl rfl rfl rfl f9 rfl rfl (vt_one d) ?_; intro w6 hm5 f5; replace f9 := f5; have hx5 := hm5.after hx4 (fun i e => e ▸ hg); replace f3 := f3.ext hx5; replace hX := hX.trans hx5; clear f5 hm5 hx4 hg hrow hx5)
                | ((with_reducible refine at_load ?_); refine w_aload Try.stTy _ rfl rfl rfl f3 rfl ?_)
                | ((with_reducible refine at_field ?_); (try refine w_yes _ _ _ rfl rfl rfl ?_); refine w_field Try.stVt _ _ _ rfl rfl rfl (by omega) ?_)
                | ((with_reducible refine at_load ?_); (try refine w_yes _ _ _ rfl rfl rfl ?_); refine w_fload _ rfl rfl rfl f9 rfl (agg_of (by kernel_rfl)) ?_)
                | (go_at_call 19; refine (MostR_any (hT.out.ext hX) hlen.out hst.out hr1.out).mono ?_; rintro e w7 ⟨he, hx⟩; replace he : e = .returned (.tuple #[.int .i64 x, .bool true]) := he; subst he; replace f3 := f3.ext hx; replace f9 := f9.ext hx; replace hX := hX.trans hx; clear hx)
                | ((with_reducible refine at_ext ?_); refine wpList_runs rfl (runs_extract rfl rfl rfl) ?_; simp only [List.getElem_toArray, List.getElem_cons_succ, List.getElem_cons_zero])
                | fail) <;> (try simp only [Act.put, List.setIfInBounds_toArray, List.set_cons_zero, List.set_cons_succ]))
              go_roundw
              case rel => exact ⟨i + 1, best, value, by go_num, rfl, rfl, by have := hlt.out; omega, hn.out, f3, hX⟩
              case measure => have := hlt.out; simp [intOf]; omega
            · have hn := hide_ (hcs.out.take hP.out hdw.out hs.out (.inr (of_decide_eq_true c3)))
              clear hcs
              skip
              go_wp2_with ((first
                | go_big_skip
                | ((with_reducible refine at_idx ?_); refine w_ridx0 (W0 := w) Try.elVt _ _ i VtR.stays rfl rfl rfl rfl hL.out hX hlt.out ?_; rintro pq row hrow hrl hre; obtain ⟨rfl, _⟩ := (congrArg (fun z => VtR w row z) hd.out).mp hre)
                | ((with_reducible refine at_load ?_); refine w_pload Try.stVt _ rfl rfl rfl (hrow.ext hX) hrl ?_)
                | ((with_reducible refine at_alloc ?_); refine w_alloc Try.stVt rfl rfl ?_; intro b9 w4 hg hx4 f9)
                | ((with_reducible refine at_store ?_); refine w_astore Try.stVt (us := vrow d) _ _ rfl rfl rfl rfl rfl f9 rfl rfl (vt_one d) ?_; intro w6 hm5 f5; replace f9 := f5; have hx5 := hm5.after hx4 (fun i e => e ▸ hg); replace f3 := f3.ext hx5; replace hX := hX.trans hx5; clear f5 hm5 hx4 hg hrow hx5)
                | ((with_reducible refine at_load ?_); refine w_aload Try.stTy _ rfl rfl rfl f3 rfl ?_)
                | ((with_reducible refine at_field ?_); (try refine w_yes _ _ _ rfl rfl rfl ?_); refine w_field Try.stVt _ _ _ rfl rfl rfl (by omega) ?_)
                | ((with_reducible refine at_load ?_); (try refine w_yes _ _ _ rfl rfl rfl ?_); refine w_fload _ rfl rfl rfl f9 rfl (agg_of (by kernel_rfl)) ?_)
                | (go_at_call 19; refine (MostR_any (hT.out.ext hX) hlen.out hst.out hr1.out).mono ?_; rintro e w7 ⟨he, hx⟩; replace he : e = .returned (.tuple #[.int .i64 x, .bool true]) := he; subst he; replace f3 := f3.ext hx; replace f9 := f9.ext hx; replace hX := hX.trans hx; clear hx)
                | ((with_reducible refine at_ext ?_); refine wpList_runs rfl (runs_extract rfl rfl rfl) ?_; simp only [List.getElem_toArray, List.getElem_cons_succ, List.getElem_cons_zero])
                | fail) <;> (try simp only [Act.put, List.setIfInBounds_toArray, List.set_cons_zero, List.set_cons_succ]))
              go_roundw
              case rel => exact ⟨i + 1, d.w, x, by go_num, rfl, rfl, by have := hlt.out; omega, hn.out, f3, hX⟩
              case measure => have := hlt.out; simp [intOf]; omega
          · have hn := hide_ (hcs.out.take hP.out hdw.out hs.out (.inl (of_decide_eq_true c2)))
            clear hcs
            go_wp2_with ((first
              | go_big_skip
              | ((with_reducible refine at_idx ?_); refine w_ridx0 (W0 := w) Try.elVt _ _ i VtR.stays rfl rfl rfl rfl hL.out hX hlt.out ?_; rintro pq row hrow hrl hre; obtain ⟨rfl, _⟩ := (congrArg (fun z => VtR w row z) hd.out).mp hre)
              | ((with_reducible refine at_load ?_); refine w_pload Try.stVt _ rfl rfl rfl (hrow.ext hX) hrl ?_)
              | ((with_reducible refine at_alloc ?_); refine w_alloc Try.stVt rfl rfl ?_; intro b9 w4 hg hx4 f9)
              | ((with_reducible refine at_store ?_); refine w_astore Try.stVt (us := vrow d) _ _ rfl rfl rfl rfl rfl f9 rfl rfl (vt_one d) ?_; intro w6 hm5 f5; replace f9 := f5; have hx5 := hm5.after hx4 (fun i e => e ▸ hg); replace f3 := f3.ext hx5; replace hX := hX.trans hx5; clear f5 hm5 hx4 hg hrow hx5)
              | ((with_reducible refine at_load ?_); refine w_aload Try.stTy _ rfl rfl rfl f3 rfl ?_)
              | ((with_reducible refine at_field ?_); (try refine w_yes _ _ _ rfl rfl rfl ?_); refine w_field Try.stVt _ _ _ rfl rfl rfl (by omega) ?_)
              | ((with_reducible refine at_load ?_); (try refine w_yes _ _ _ rfl rfl rfl ?_); refine w_fload _ rfl rfl rfl f9 rfl (agg_of (by kernel_rfl)) ?_)
              | (go_at_call 19; refine (MostR_any (hT.out.ext hX) hlen.out hst.out hr1.out).mono ?_; rintro e w7 ⟨he, hx⟩; replace he : e = .returned (.tuple #[.int .i64 x, .bool true]) := he; subst he; replace f3 := f3.ext hx; replace f9 := f9.ext hx; replace hX := hX.trans hx; clear hx)
              | ((with_reducible refine at_ext ?_); refine wpList_runs rfl (runs_extract rfl rfl rfl) ?_; simp only [List.getElem_toArray, List.getElem_cons_succ, List.getElem_cons_zero])
              | fail) <;> (try simp only [Act.put, List.setIfInBounds_toArray, List.set_cons_zero, List.set_cons_succ]))
            go_roundw
            case rel => exact ⟨i + 1, d.w, x, by go_num, rfl, rfl, by have := hlt.out; omega, hn.out, f3, hX⟩
            case measure => have := hlt.out; simp [intOf]; omega
    · have hfin := hide_ (comm_fin hst.out (by have := hcs.out; rwa [List.take_of_length_le (by omega)] at this))
      rw [hr.out] at hfin
      have tl : decide (i < L.length) = false := decide_eq_false hlt0
      clear hlt0 hcs
      go_wp2
      go_ret2
      exact Keep.intro ⟨by rw [hfin.out.1, hfin.out.2]; rfl, hX⟩
end Go.Proofs.Ytmhmkaginnddeaa
