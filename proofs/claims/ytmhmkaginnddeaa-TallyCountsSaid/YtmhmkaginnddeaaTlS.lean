/- The document's Add. -/
import Derived.Test.YtmhmkaginnddeaaTlR
namespace Go.Proofs.Ytmhmkaginnddeaa
set_option maxRecDepth 100000
open Go.RowKit

def addVok (n : Nat) (l : List VtD) (d : VtD) : Bool := decide (VtOk n d ∧ ofV l d.k d.w d.f.toNat = none)
theorem addV_len (n : Nat) (l : List VtD) (d : VtD) : (addV n l d).length ≤ l.length + 1 := by unfold addV; split <;> simp
theorem rown_one {F : Nat → Prop} {w : World} {e : TypeId} {n : Nat} {v : Value} {rows : List (List Value)} (h : RowN F w e n v rows) : v.oneCell' = true := by
  obtain ⟨A, c, rfl, _⟩ := h.slS; rfl
theorem Vts.mod {F : Nat → Prop} {w w' : World} {u : Value} {l : List VtD} (h : Vts w u l) (hm : Mod F w w') (hn : ∀ k, u.ownBlock = some k → ¬ F k) : Vts w' u l := by
  obtain ⟨rows, ⟨A, c, rfl, h1, h2, h3⟩, hl, hr⟩ := h
  refine ⟨rows, ⟨A, c, rfl, h1, h2, fun k row hk => ?_⟩, hl, fun k row d hk hd => hr k row d hk hd⟩
  obtain ⟨h5, ad, rfl, h7⟩ := h3 k row hk
  exact ⟨h5, ad, rfl, h7.mod hm (by rw [blk_add]; exact hn ad.block rfl)⟩
theorem Vts.one {w : World} {u : Value} {l : List VtD} (h : Vts w u l) : u.oneCell' = true := by
  obtain ⟨A, c, rfl, _⟩ := h.slS; rfl

set_option maxRecDepth 100000 in
set_option maxHeartbeats 12800000 in
theorem AddR_any {w : World} {sv u : Value} {t : List Int} {l : List VtD} {d : VtD} (h : Ty w sv u t l) (hd : d.Fit) (hlen0 : l.length ≤ 100000) (ht : t.length ≤ 7) :
    Calls Try.prog 37 #[.agg #[sv, u], .agg (vrow d).toArray] w fun e w' => ∃ u', e = .returned (.tuple #[.agg #[sv, u'], .bool (addVok t.length l d)]) ∧ Ty w' sv u' t (addV t.length l d) ∧ (∀ k, u'.ownBlock = some k → u.ownBlock = some k ∨ (w.heap.size ≤ k ∧ k < w'.heap.size)) ∧ Ext w w' := by
  refine calls_keep ?_
  have hT := hide_ h
  have hlen := hide_ hlen0
  have ht7 := hide_ ht
  have hX := Ext.refl w
  have hone := hide_ (show ∀ z ∈ [sv, u], z.oneCell' = true from by intro z hz; simp at hz; rcases hz with rfl | rfl; exact Sl.one' h.1; exact h.2.one)
  have hsl := hide_ h.2.slS
  have hvo := hide_ (show ∀ y ∈ l.map vrow, ∀ z ∈ y, z.oneCell' = true from by intro y hy; obtain ⟨e, _, rfl⟩ := List.mem_map.1 hy; exact vt_one e)
  have hfit := hide_ (show ∀ e ∈ l ++ [d], e.Fit from by intro e he; rcases List.mem_append.1 he with he | he; exact h.2.fit e he; rw [List.mem_singleton.1 he]; exact hd)
  have hbig := hide_ (show (([] : List (List Value)).length + (l.map vrow).length) * 32 ≤ 140737488355328 from by simp; omega)
  have hbig2 := hide_ (show ((l.map vrow).length + [vrow d].length) * 32 ≤ 140737488355328 from by simp; omega)
  obtain ⟨r, hr0⟩ : ∃ r, lookV l d.k d.w d.f = r := ⟨_, rfl⟩
  have hr := hide_ hr0
  have hsame := hide_ (show 0 ≤ d.f → lookV l d.k d.w d.f = ofV l d.k d.w d.f.toNat from fun h0 => by rw [← lookV_nat, Int.toNat_of_nonneg h0])
  clear h hd hlen0 hr0 ht
  cases r with
  | some y =>
    have hno := hide_ (show ¬ (VtOk t.length d ∧ ofV l d.k d.w d.f.toNat = none) from fun h => by have h1 := hsame.out h.1.2.2.1.1; rw [h.2, hr.out] at h1; cases h1)
    go_enter Try.func37, Try.ntmps37
    go_wp2_with ((first
      | go_big_skip
      | ((with_reducible refine at_box ?_); refine w_box _ [sv, u] rfl rfl rfl rfl ?_; intro b2 w1 hb2 hx f2; replace hX := hX.trans hx; clear hx)
      | ((with_reducible refine at_box ?_); refine w_box _ (vrow d) rfl rfl rfl rfl ?_; intro b3 w2 hb3 hx f3; replace f2 := f2.ext hx; replace hX := hX.trans hx; clear hx)
      | ((with_reducible refine at_alloc ?_); refine w_alloc Try.stTy rfl rfl ?_; intro b4 w3 hb4 hx f4; have n4 := hide_ (show b2 ≠ b4 ∧ b3 ≠ b4 from by have := f2.lt; have := f3.lt; exact ⟨by omega, by omega⟩); have hw4 := hide_ (Nat.le_trans hX.size hb4); replace f2 := f2.ext hx; replace f3 := f3.ext hx; replace hX := hX.trans hx; clear hx)
      | ((with_reducible refine at_load ?_); refine w_aload Try.stTy _ rfl rfl rfl f2 rfl ?_)
      | ((with_reducible refine at_load ?_); refine w_aload Try.stTy _ rfl rfl rfl f9 rfl ?_)
      | ((with_reducible refine at_load ?_); refine w_aload (cs := vrow d) Try.stVt _ rfl rfl rfl f3 rfl ?_)
      | ((with_reducible refine at_field ?_); (try refine w_yes _ _ _ rfl rfl rfl ?_); refine w_field Try.stVt _ _ _ rfl rfl rfl (by omega) ?_)
      | ((with_reducible refine at_field ?_); (try refine w_yes _ _ _ rfl rfl rfl ?_); refine w_field Try.stTy _ _ _ rfl rfl rfl (by omega) ?_)
      | ((with_reducible refine at_load ?_); (try refine w_yes _ _ _ rfl rfl rfl ?_); refine w_fload _ rfl rfl rfl f3 rfl (agg_of (by kernel_rfl)) ?_)
      | ((with_reducible refine at_load ?_); (try refine w_yes _ _ _ rfl rfl rfl ?_); refine w_fload _ rfl rfl rfl f2 rfl (agg_of (by kernel_rfl)) ?_)
      | ((with_reducible refine at_bi ?_); (try refine w_yes _ _ _ rfl rfl rfl ?_); refine i_len _ rfl rfl rfl (hT.out.1.ext hX) ?_)
      | (go_at_call 18; refine (Of_any (hT.out.ext hX) hlen.out hr.out).mono ?_; rintro e w4 ⟨he, hx⟩; replace he : e = .returned (.tuple #[.int .i64 y, .bool true]) := he; subst he; replace f2 := f2.ext hx; replace f3 := f3.ext hx; replace f4 := f4.ext hx; have h4l := hide_ f4.lt; replace hX := hX.trans hx; clear hx)
      | (refine wpList_runs rfl (runs_extract rfl rfl rfl) ?_; simp only [List.getElem_toArray, List.getElem_cons_succ, List.getElem_cons_zero])
      | ((with_reducible refine at_store ?_); refine w_astore Try.stTy (us := [sv, u]) _ _ rfl rfl rfl rfl rfl f4 rfl rfl hone.out ?_; intro w5 hm5 f5; replace hX := hm5.after hX (by intro j e; have e' : j = b4 := e; rw [e']; exact hw4.out))
      | fail) <;> (try simp only [Act.put, List.setIfInBounds_toArray, List.set_cons_zero, List.set_cons_succ]))
    exact bodyPost_ret (ret_two Try.stTy rfl rfl rfl f5 rfl) rfl (Keep.intro ⟨u, by rw [show addVok t.length l d = false from decide_eq_false hno.out]; rfl, by rw [show addV t.length l d = l from if_neg hno.out]; exact hT.out.ext hX, fun _ hk => .inl hk, hX⟩)
  | none =>
    cases c1 : (d.k != 4)
    · cases c3 : decide (d.w < 0)
      rotate_left
      · have hno := hide_ (show ¬ (VtOk t.length d ∧ ofV l d.k d.w d.f.toNat = none) from fun h => by have h1 := h.1.2.1.1; have h2 := of_decide_eq_true c3; omega)
        go_enter Try.func37, Try.ntmps37
        go_wp2_with ((first
          | go_big_skip
          | ((with_reducible refine at_box ?_); refine w_box _ [sv, u] rfl rfl rfl rfl ?_; intro b2 w1 hb2 hx f2; replace hX := hX.trans hx; clear hx)
          | ((with_reducible refine at_box ?_); refine w_box _ (vrow d) rfl rfl rfl rfl ?_; intro b3 w2 hb3 hx f3; replace f2 := f2.ext hx; replace hX := hX.trans hx; clear hx)
          | ((with_reducible refine at_alloc ?_); refine w_alloc Try.stTy rfl rfl ?_; intro b4 w3 hb4 hx f4; have n4 := hide_ (show b2 ≠ b4 ∧ b3 ≠ b4 from by have := f2.lt; have := f3.lt; exact ⟨by omega, by omega⟩); have hw4 := hide_ (Nat.le_trans hX.size hb4); replace f2 := f2.ext hx; replace f3 := f3.ext hx; replace hX := hX.trans hx; clear hx)
          | ((with_reducible refine at_load ?_); refine w_aload Try.stTy _ rfl rfl rfl f2 rfl ?_)
          | ((with_reducible refine at_load ?_); refine w_aload Try.stTy _ rfl rfl rfl f9 rfl ?_)
          | ((with_reducible refine at_load ?_); refine w_aload (cs := vrow d) Try.stVt _ rfl rfl rfl f3 rfl ?_)
          | ((with_reducible refine at_field ?_); (try refine w_yes _ _ _ rfl rfl rfl ?_); refine w_field Try.stVt _ _ _ rfl rfl rfl (by omega) ?_)
          | ((with_reducible refine at_field ?_); (try refine w_yes _ _ _ rfl rfl rfl ?_); refine w_field Try.stTy _ _ _ rfl rfl rfl (by omega) ?_)
          | ((with_reducible refine at_load ?_); (try refine w_yes _ _ _ rfl rfl rfl ?_); refine w_fload _ rfl rfl rfl f3 rfl (agg_of (by kernel_rfl)) ?_)
          | ((with_reducible refine at_load ?_); (try refine w_yes _ _ _ rfl rfl rfl ?_); refine w_fload _ rfl rfl rfl f2 rfl (agg_of (by kernel_rfl)) ?_)
          | ((with_reducible refine at_bi ?_); (try refine w_yes _ _ _ rfl rfl rfl ?_); refine i_len _ rfl rfl rfl (hT.out.1.ext hX) ?_)
          | (go_at_call 18; refine (Of_any (hT.out.ext hX) hlen.out hr.out).mono ?_; rintro e w4 ⟨he, hx⟩; replace he : e = .returned (.tuple #[.int .i64 0, .bool false]) := he; subst he; replace f2 := f2.ext hx; replace f3 := f3.ext hx; replace f4 := f4.ext hx; have h4l := hide_ f4.lt; replace hX := hX.trans hx; clear hx)
          | (refine wpList_runs rfl (runs_extract rfl rfl rfl) ?_; simp only [List.getElem_toArray, List.getElem_cons_succ, List.getElem_cons_zero])
          | ((with_reducible refine at_store ?_); refine w_astore Try.stTy (us := [sv, u]) _ _ rfl rfl rfl rfl rfl f4 rfl rfl hone.out ?_; intro w5 hm5 f5; replace hX := hm5.after hX (by intro j e; have e' : j = b4 := e; rw [e']; exact hw4.out))
          | fail) <;> (try simp only [Act.put, List.setIfInBounds_toArray, List.set_cons_zero, List.set_cons_succ]))
        exact bodyPost_ret (ret_two Try.stTy rfl rfl rfl f5 rfl) rfl (Keep.intro ⟨u, by rw [show addVok t.length l d = false from decide_eq_false hno.out]; rfl, by rw [show addV t.length l d = l from if_neg hno.out]; exact hT.out.ext hX, fun _ hk => .inl hk, hX⟩)
      cases c4 : decide (1000 < d.w)
      rotate_left
      · have hno := hide_ (show ¬ (VtOk t.length d ∧ ofV l d.k d.w d.f.toNat = none) from fun h => by have h1 := h.1.2.1.2; have h2 := of_decide_eq_true c4; omega)
        go_enter Try.func37, Try.ntmps37
        go_wp2_with ((first
          | go_big_skip
          | ((with_reducible refine at_box ?_); refine w_box _ [sv, u] rfl rfl rfl rfl ?_; intro b2 w1 hb2 hx f2; replace hX := hX.trans hx; clear hx)
          | ((with_reducible refine at_box ?_); refine w_box _ (vrow d) rfl rfl rfl rfl ?_; intro b3 w2 hb3 hx f3; replace f2 := f2.ext hx; replace hX := hX.trans hx; clear hx)
          | ((with_reducible refine at_alloc ?_); refine w_alloc Try.stTy rfl rfl ?_; intro b4 w3 hb4 hx f4; have n4 := hide_ (show b2 ≠ b4 ∧ b3 ≠ b4 from by have := f2.lt; have := f3.lt; exact ⟨by omega, by omega⟩); have hw4 := hide_ (Nat.le_trans hX.size hb4); replace f2 := f2.ext hx; replace f3 := f3.ext hx; replace hX := hX.trans hx; clear hx)
          | ((with_reducible refine at_load ?_); refine w_aload Try.stTy _ rfl rfl rfl f2 rfl ?_)
          | ((with_reducible refine at_load ?_); refine w_aload Try.stTy _ rfl rfl rfl f9 rfl ?_)
          | ((with_reducible refine at_load ?_); refine w_aload (cs := vrow d) Try.stVt _ rfl rfl rfl f3 rfl ?_)
          | ((with_reducible refine at_field ?_); (try refine w_yes _ _ _ rfl rfl rfl ?_); refine w_field Try.stVt _ _ _ rfl rfl rfl (by omega) ?_)
          | ((with_reducible refine at_field ?_); (try refine w_yes _ _ _ rfl rfl rfl ?_); refine w_field Try.stTy _ _ _ rfl rfl rfl (by omega) ?_)
          | ((with_reducible refine at_load ?_); (try refine w_yes _ _ _ rfl rfl rfl ?_); refine w_fload _ rfl rfl rfl f3 rfl (agg_of (by kernel_rfl)) ?_)
          | ((with_reducible refine at_load ?_); (try refine w_yes _ _ _ rfl rfl rfl ?_); refine w_fload _ rfl rfl rfl f2 rfl (agg_of (by kernel_rfl)) ?_)
          | ((with_reducible refine at_bi ?_); (try refine w_yes _ _ _ rfl rfl rfl ?_); refine i_len _ rfl rfl rfl (hT.out.1.ext hX) ?_)
          | (go_at_call 18; refine (Of_any (hT.out.ext hX) hlen.out hr.out).mono ?_; rintro e w4 ⟨he, hx⟩; replace he : e = .returned (.tuple #[.int .i64 0, .bool false]) := he; subst he; replace f2 := f2.ext hx; replace f3 := f3.ext hx; replace f4 := f4.ext hx; have h4l := hide_ f4.lt; replace hX := hX.trans hx; clear hx)
          | (refine wpList_runs rfl (runs_extract rfl rfl rfl) ?_; simp only [List.getElem_toArray, List.getElem_cons_succ, List.getElem_cons_zero])
          | ((with_reducible refine at_store ?_); refine w_astore Try.stTy (us := [sv, u]) _ _ rfl rfl rfl rfl rfl f4 rfl rfl hone.out ?_; intro w5 hm5 f5; replace hX := hm5.after hX (by intro j e; have e' : j = b4 := e; rw [e']; exact hw4.out))
          | fail) <;> (try simp only [Act.put, List.setIfInBounds_toArray, List.set_cons_zero, List.set_cons_succ]))
        exact bodyPost_ret (ret_two Try.stTy rfl rfl rfl f5 rfl) rfl (Keep.intro ⟨u, by rw [show addVok t.length l d = false from decide_eq_false hno.out]; rfl, by rw [show addV t.length l d = l from if_neg hno.out]; exact hT.out.ext hX, fun _ hk => .inl hk, hX⟩)
      cases c5 : decide (d.f < 0)
      rotate_left
      · have hno := hide_ (show ¬ (VtOk t.length d ∧ ofV l d.k d.w d.f.toNat = none) from fun h => by have h1 := h.1.2.2.1.1; have h2 := of_decide_eq_true c5; omega)
        go_enter Try.func37, Try.ntmps37
        go_wp2_with ((first
          | go_big_skip
          | ((with_reducible refine at_box ?_); refine w_box _ [sv, u] rfl rfl rfl rfl ?_; intro b2 w1 hb2 hx f2; replace hX := hX.trans hx; clear hx)
          | ((with_reducible refine at_box ?_); refine w_box _ (vrow d) rfl rfl rfl rfl ?_; intro b3 w2 hb3 hx f3; replace f2 := f2.ext hx; replace hX := hX.trans hx; clear hx)
          | ((with_reducible refine at_alloc ?_); refine w_alloc Try.stTy rfl rfl ?_; intro b4 w3 hb4 hx f4; have n4 := hide_ (show b2 ≠ b4 ∧ b3 ≠ b4 from by have := f2.lt; have := f3.lt; exact ⟨by omega, by omega⟩); have hw4 := hide_ (Nat.le_trans hX.size hb4); replace f2 := f2.ext hx; replace f3 := f3.ext hx; replace hX := hX.trans hx; clear hx)
          | ((with_reducible refine at_load ?_); refine w_aload Try.stTy _ rfl rfl rfl f2 rfl ?_)
          | ((with_reducible refine at_load ?_); refine w_aload Try.stTy _ rfl rfl rfl f9 rfl ?_)
          | ((with_reducible refine at_load ?_); refine w_aload (cs := vrow d) Try.stVt _ rfl rfl rfl f3 rfl ?_)
          | ((with_reducible refine at_field ?_); (try refine w_yes _ _ _ rfl rfl rfl ?_); refine w_field Try.stVt _ _ _ rfl rfl rfl (by omega) ?_)
          | ((with_reducible refine at_field ?_); (try refine w_yes _ _ _ rfl rfl rfl ?_); refine w_field Try.stTy _ _ _ rfl rfl rfl (by omega) ?_)
          | ((with_reducible refine at_load ?_); (try refine w_yes _ _ _ rfl rfl rfl ?_); refine w_fload _ rfl rfl rfl f3 rfl (agg_of (by kernel_rfl)) ?_)
          | ((with_reducible refine at_load ?_); (try refine w_yes _ _ _ rfl rfl rfl ?_); refine w_fload _ rfl rfl rfl f2 rfl (agg_of (by kernel_rfl)) ?_)
          | ((with_reducible refine at_bi ?_); (try refine w_yes _ _ _ rfl rfl rfl ?_); refine i_len _ rfl rfl rfl (hT.out.1.ext hX) ?_)
          | (go_at_call 18; refine (Of_any (hT.out.ext hX) hlen.out hr.out).mono ?_; rintro e w4 ⟨he, hx⟩; replace he : e = .returned (.tuple #[.int .i64 0, .bool false]) := he; subst he; replace f2 := f2.ext hx; replace f3 := f3.ext hx; replace f4 := f4.ext hx; have h4l := hide_ f4.lt; replace hX := hX.trans hx; clear hx)
          | (refine wpList_runs rfl (runs_extract rfl rfl rfl) ?_; simp only [List.getElem_toArray, List.getElem_cons_succ, List.getElem_cons_zero])
          | ((with_reducible refine at_store ?_); refine w_astore Try.stTy (us := [sv, u]) _ _ rfl rfl rfl rfl rfl f4 rfl rfl hone.out ?_; intro w5 hm5 f5; replace hX := hm5.after hX (by intro j e; have e' : j = b4 := e; rw [e']; exact hw4.out))
          | fail) <;> (try simp only [Act.put, List.setIfInBounds_toArray, List.set_cons_zero, List.set_cons_succ]))
        exact bodyPost_ret (ret_two Try.stTy rfl rfl rfl f5 rfl) rfl (Keep.intro ⟨u, by rw [show addVok t.length l d = false from decide_eq_false hno.out]; rfl, by rw [show addV t.length l d = l from if_neg hno.out]; exact hT.out.ext hX, fun _ hk => .inl hk, hX⟩)
      cases c6 : decide ((t.length : Int) ≤ d.f)
      rotate_left
      · have hno := hide_ (show ¬ (VtOk t.length d ∧ ofV l d.k d.w d.f.toNat = none) from fun h => by have h1 := h.1.2.2.1.2; have h2 := of_decide_eq_true c6; omega)
        go_enter Try.func37, Try.ntmps37
        go_wp2_with ((first
          | go_big_skip
          | ((with_reducible refine at_box ?_); refine w_box _ [sv, u] rfl rfl rfl rfl ?_; intro b2 w1 hb2 hx f2; replace hX := hX.trans hx; clear hx)
          | ((with_reducible refine at_box ?_); refine w_box _ (vrow d) rfl rfl rfl rfl ?_; intro b3 w2 hb3 hx f3; replace f2 := f2.ext hx; replace hX := hX.trans hx; clear hx)
          | ((with_reducible refine at_alloc ?_); refine w_alloc Try.stTy rfl rfl ?_; intro b4 w3 hb4 hx f4; have n4 := hide_ (show b2 ≠ b4 ∧ b3 ≠ b4 from by have := f2.lt; have := f3.lt; exact ⟨by omega, by omega⟩); have hw4 := hide_ (Nat.le_trans hX.size hb4); replace f2 := f2.ext hx; replace f3 := f3.ext hx; replace hX := hX.trans hx; clear hx)
          | ((with_reducible refine at_load ?_); refine w_aload Try.stTy _ rfl rfl rfl f2 rfl ?_)
          | ((with_reducible refine at_load ?_); refine w_aload Try.stTy _ rfl rfl rfl f9 rfl ?_)
          | ((with_reducible refine at_load ?_); refine w_aload (cs := vrow d) Try.stVt _ rfl rfl rfl f3 rfl ?_)
          | ((with_reducible refine at_field ?_); (try refine w_yes _ _ _ rfl rfl rfl ?_); refine w_field Try.stVt _ _ _ rfl rfl rfl (by omega) ?_)
          | ((with_reducible refine at_field ?_); (try refine w_yes _ _ _ rfl rfl rfl ?_); refine w_field Try.stTy _ _ _ rfl rfl rfl (by omega) ?_)
          | ((with_reducible refine at_load ?_); (try refine w_yes _ _ _ rfl rfl rfl ?_); refine w_fload _ rfl rfl rfl f3 rfl (agg_of (by kernel_rfl)) ?_)
          | ((with_reducible refine at_load ?_); (try refine w_yes _ _ _ rfl rfl rfl ?_); refine w_fload _ rfl rfl rfl f2 rfl (agg_of (by kernel_rfl)) ?_)
          | ((with_reducible refine at_bi ?_); (try refine w_yes _ _ _ rfl rfl rfl ?_); refine i_len _ rfl rfl rfl (hT.out.1.ext hX) ?_)
          | (go_at_call 18; refine (Of_any (hT.out.ext hX) hlen.out hr.out).mono ?_; rintro e w4 ⟨he, hx⟩; replace he : e = .returned (.tuple #[.int .i64 0, .bool false]) := he; subst he; replace f2 := f2.ext hx; replace f3 := f3.ext hx; replace f4 := f4.ext hx; have h4l := hide_ f4.lt; replace hX := hX.trans hx; clear hx)
          | (refine wpList_runs rfl (runs_extract rfl rfl rfl) ?_; simp only [List.getElem_toArray, List.getElem_cons_succ, List.getElem_cons_zero])
          | ((with_reducible refine at_store ?_); refine w_astore Try.stTy (us := [sv, u]) _ _ rfl rfl rfl rfl rfl f4 rfl rfl hone.out ?_; intro w5 hm5 f5; replace hX := hm5.after hX (by intro j e; have e' : j = b4 := e; rw [e']; exact hw4.out))
          | fail) <;> (try simp only [Act.put, List.setIfInBounds_toArray, List.set_cons_zero, List.set_cons_succ]))
        exact bodyPost_ret (ret_two Try.stTy rfl rfl rfl f5 rfl) rfl (Keep.intro ⟨u, by rw [show addVok t.length l d = false from decide_eq_false hno.out]; rfl, by rw [show addV t.length l d = l from if_neg hno.out]; exact hT.out.ext hX, fun _ hk => .inl hk, hX⟩)
      cases c7 : decide (d.x < -1)
      rotate_left
      · have hno := hide_ (show ¬ (VtOk t.length d ∧ ofV l d.k d.w d.f.toNat = none) from fun h => by have h1 := h.1.2.2.2; have h2 := of_decide_eq_true c7; omega)
        go_enter Try.func37, Try.ntmps37
        go_wp2_with ((first
          | go_big_skip
          | ((with_reducible refine at_box ?_); refine w_box _ [sv, u] rfl rfl rfl rfl ?_; intro b2 w1 hb2 hx f2; replace hX := hX.trans hx; clear hx)
          | ((with_reducible refine at_box ?_); refine w_box _ (vrow d) rfl rfl rfl rfl ?_; intro b3 w2 hb3 hx f3; replace f2 := f2.ext hx; replace hX := hX.trans hx; clear hx)
          | ((with_reducible refine at_alloc ?_); refine w_alloc Try.stTy rfl rfl ?_; intro b4 w3 hb4 hx f4; have n4 := hide_ (show b2 ≠ b4 ∧ b3 ≠ b4 from by have := f2.lt; have := f3.lt; exact ⟨by omega, by omega⟩); have hw4 := hide_ (Nat.le_trans hX.size hb4); replace f2 := f2.ext hx; replace f3 := f3.ext hx; replace hX := hX.trans hx; clear hx)
          | ((with_reducible refine at_load ?_); refine w_aload Try.stTy _ rfl rfl rfl f2 rfl ?_)
          | ((with_reducible refine at_load ?_); refine w_aload Try.stTy _ rfl rfl rfl f9 rfl ?_)
          | ((with_reducible refine at_load ?_); refine w_aload (cs := vrow d) Try.stVt _ rfl rfl rfl f3 rfl ?_)
          | ((with_reducible refine at_field ?_); (try refine w_yes _ _ _ rfl rfl rfl ?_); refine w_field Try.stVt _ _ _ rfl rfl rfl (by omega) ?_)
          | ((with_reducible refine at_field ?_); (try refine w_yes _ _ _ rfl rfl rfl ?_); refine w_field Try.stTy _ _ _ rfl rfl rfl (by omega) ?_)
          | ((with_reducible refine at_load ?_); (try refine w_yes _ _ _ rfl rfl rfl ?_); refine w_fload _ rfl rfl rfl f3 rfl (agg_of (by kernel_rfl)) ?_)
          | ((with_reducible refine at_load ?_); (try refine w_yes _ _ _ rfl rfl rfl ?_); refine w_fload _ rfl rfl rfl f2 rfl (agg_of (by kernel_rfl)) ?_)
          | ((with_reducible refine at_bi ?_); (try refine w_yes _ _ _ rfl rfl rfl ?_); refine i_len _ rfl rfl rfl (hT.out.1.ext hX) ?_)
          | (go_at_call 18; refine (Of_any (hT.out.ext hX) hlen.out hr.out).mono ?_; rintro e w4 ⟨he, hx⟩; replace he : e = .returned (.tuple #[.int .i64 0, .bool false]) := he; subst he; replace f2 := f2.ext hx; replace f3 := f3.ext hx; replace f4 := f4.ext hx; have h4l := hide_ f4.lt; replace hX := hX.trans hx; clear hx)
          | (refine wpList_runs rfl (runs_extract rfl rfl rfl) ?_; simp only [List.getElem_toArray, List.getElem_cons_succ, List.getElem_cons_zero])
          | ((with_reducible refine at_store ?_); refine w_astore Try.stTy (us := [sv, u]) _ _ rfl rfl rfl rfl rfl f4 rfl rfl hone.out ?_; intro w5 hm5 f5; replace hX := hm5.after hX (by intro j e; have e' : j = b4 := e; rw [e']; exact hw4.out))
          | fail) <;> (try simp only [Act.put, List.setIfInBounds_toArray, List.set_cons_zero, List.set_cons_succ]))
        exact bodyPost_ret (ret_two Try.stTy rfl rfl rfl f5 rfl) rfl (Keep.intro ⟨u, by rw [show addVok t.length l d = false from decide_eq_false hno.out]; rfl, by rw [show addV t.length l d = l from if_neg hno.out]; exact hT.out.ext hX, fun _ hk => .inl hk, hX⟩)
      have hyes := hide_ (show VtOk t.length d ∧ ofV l d.k d.w d.f.toNat = none from ⟨⟨.inl (by simpa using c1), ⟨by simpa using c3, by simpa using c4⟩, ⟨by simpa using c5, by simpa using c6⟩, by simpa using c7⟩, (hsame.out (by simpa using c5)).symm.trans hr.out⟩)
      go_enter Try.func37, Try.ntmps37
      go_wp2_with ((first
        | go_big_skip
        | ((with_reducible refine at_box ?_); refine w_box _ [sv, u] rfl rfl rfl rfl ?_; intro b2 w1 hb2 hx f2; have hw2 := hide_ hb2; replace hX := hX.trans hx; clear hx)
        | ((with_reducible refine at_box ?_); refine w_box _ (vrow d) rfl rfl rfl rfl ?_; intro b3 w2 hb3 hx f3; replace f2 := f2.ext hx; replace hX := hX.trans hx; clear hx)
        | ((with_reducible refine at_alloc ?_); refine w_alloc Try.stTy rfl rfl ?_; intro b4 w3 hb4 hx f4; have n4 := hide_ (show b2 ≠ b4 ∧ b3 ≠ b4 from by have := f2.lt; have := f3.lt; exact ⟨by omega, by omega⟩); have hw4 := hide_ (Nat.le_trans hX.size hb4); replace f2 := f2.ext hx; replace f3 := f3.ext hx; replace hX := hX.trans hx; clear hx)
        | ((with_reducible refine at_load ?_); refine w_aload Try.stTy _ rfl rfl rfl f2 rfl ?_)
        | ((with_reducible refine at_load ?_); refine w_aload Try.stTy _ rfl rfl rfl f9 rfl ?_)
        | ((with_reducible refine at_load ?_); refine w_aload (cs := vrow d) Try.stVt _ rfl rfl rfl f3 rfl ?_)
        | ((with_reducible refine at_field ?_); (try refine w_yes _ _ _ rfl rfl rfl ?_); refine w_field Try.stVt _ _ _ rfl rfl rfl (by omega) ?_)
        | ((with_reducible refine at_field ?_); (try refine w_yes _ _ _ rfl rfl rfl ?_); refine w_field Try.stTy _ _ _ rfl rfl rfl (by omega) ?_)
        | ((with_reducible refine at_load ?_); (try refine w_yes _ _ _ rfl rfl rfl ?_); refine w_fload _ rfl rfl rfl f3 rfl (agg_of (by kernel_rfl)) ?_)
        | ((with_reducible refine at_load ?_); (try refine w_yes _ _ _ rfl rfl rfl ?_); refine w_fload _ rfl rfl rfl f2 rfl (agg_of (by kernel_rfl)) ?_)
        | ((with_reducible refine at_bi ?_); (try refine w_yes _ _ _ rfl rfl rfl ?_); refine i_len _ rfl rfl rfl (hT.out.1.ext hX) ?_)
        | (go_at_call 18; refine (Of_any (hT.out.ext hX) hlen.out hr.out).mono ?_; rintro e w4 ⟨he, hx⟩; replace he : e = .returned (.tuple #[.int .i64 0, .bool false]) := he; subst he; replace f2 := f2.ext hx; replace f3 := f3.ext hx; replace f4 := f4.ext hx; have h4l := hide_ f4.lt; replace hX := hX.trans hx; clear hx)
        | (refine wpList_runs rfl (runs_extract rfl rfl rfl) ?_; simp only [List.getElem_toArray, List.getElem_cons_succ, List.getElem_cons_zero])
        | ((with_reducible refine at_lit ?_); refine w_nnew (o := ⟨some 60, _, _, _, _, _⟩) Try.elVtN [] rfl rfl rfl (by simp) rfl (by omega) ?_; intro v60 w5 B hB1 hB2 hx hn; have hB := hide_ (show b2 < B ∧ b3 < B ∧ b4 < B ∧ w.heap.size ≤ B from by have := f2.lt; have := f3.lt; have := f4.lt; have := hX.size; exact ⟨by omega, by omega, by omega, by omega⟩); replace hn := hn.mono (G := fun k => B ≤ k) fun k hk => hk.1; replace f2 := f2.ext hx; replace f3 := f3.ext hx; replace f4 := f4.ext hx; replace hX := hX.trans hx; have hBw := hide_ hB2; clear hx hB1 hB2)
        | ((with_reducible refine at_bi ?_); refine w_napp0 (o := ⟨some 63, _, _, _, _, _⟩) Try.elVtN _ _ rfl rfl rfl rfl hn (hsl.out.ext hX) hvo.out hbig.out ?_; intro v63 w6 hm6 hn6; rw [List.nil_append] at hn6; replace hn6 := hn6.mono (G := fun k => B ≤ k) fun k hk => hk.elim id fun h => Nat.le_trans hBw.out h.1; have hw56 := hide_ (Nat.le_trans hBw.out hm6.size); replace f2 := f2.mod hm6 (Nat.not_le.2 hB.out.1); replace f3 := f3.mod hm6 (Nat.not_le.2 hB.out.2.1); replace f4 := f4.mod hm6 (Nat.not_le.2 hB.out.2.2.1); replace hX := hm6.after hX (fun i hi => Nat.le_trans hB.out.2.2.2 hi); clear hm6 hn)
        | ((with_reducible refine at_lit ?_); refine w_nnew (o := ⟨some 66, _, _, _, _, _⟩) Try.elVtN [vrow d] rfl rfl rfl (by intro y hy; simp at hy; subst hy; rfl) rfl (by omega) ?_; intro v66 w7 B7 hB1 hB2 hx hn7; have hl7 := hn7.slS; replace hn6 := hn6.ext hx; have hw67 := hide_ (Nat.le_trans hw56.out hx.size); replace f2 := f2.ext hx; replace f3 := f3.ext hx; replace f4 := f4.ext hx; replace hX := hX.trans hx; clear hx hB1 hB2 hn7)
        | ((with_reducible refine at_bi ?_); refine w_napp (o := ⟨some 67, _, _, _, _, _⟩) Try.elVtN _ _ rfl rfl rfl rfl hn6 hl7 (by simp) (by intro y hy; simp at hy; subst hy; exact vt_one d) hbig2.out ?_; intro v67 w8 hm8 hn8; replace hn8 := hn8.mono (G := fun k => B ≤ k) fun k hk => hk.elim id fun h => Nat.le_trans hw67.out h.1; replace f2 := f2.mod hm8 (Nat.not_le.2 hB.out.1); replace f4 := f4.mod hm8 (Nat.not_le.2 hB.out.2.2.1); replace hX := hm8.after hX (fun i hi => Nat.le_trans hB.out.2.2.2 hi); clear hm8 hn6 f3 hl7)
        | ((with_reducible refine at_store ?_); refine w_fstore _ _ rfl rfl rfl rfl rfl f2 (by simp) (oneCell_cells (rown_one hn8)) (rown_one hn8) (by kernel_rfl) ?_; intro w9 hm9 f9; replace f9 : Fs w9 b2 [sv, v67] := f9; replace hn8 := hn8.mod hm9 (fun k hk e => by have e' : k = b2 := e; have hk' : B ≤ k := hk; have := hB.out.1; omega); replace f4 := f4.mod hm9 (fun e => n4.out.1 e.symm); replace hX := hm9.after hX (by intro j e; have e' : j = b2 := e; rw [e']; exact hw2.out))
        | ((with_reducible refine at_store ?_); refine w_astore Try.stTy (us := [sv, v67]) _ _ rfl rfl rfl rfl rfl f4 rfl rfl (by intro z hz; simp at hz; rcases hz with rfl | rfl; exact hone.out _ (by simp); exact rown_one hn8) ?_; intro wA hmA fA; replace hn8 := hn8.mod hmA (fun k hk e => by have e' : k = b4 := e; have hk' : B ≤ k := hk; have := hB.out.2.2.1; omega); replace hX := hmA.after hX (by intro j e; have e' : j = b4 := e; rw [e']; exact hw4.out))
        | fail) <;> (try simp only [Act.put, List.setIfInBounds_toArray, List.set_cons_zero, List.set_cons_succ]))
      have hfin := vts_of (l := l ++ [d]) (by rw [List.map_append]; exact hn8) hfit.out
      exact bodyPost_ret (ret_two Try.stTy rfl rfl rfl fA rfl) rfl (Keep.intro ⟨v67, by rw [show addVok t.length l d = true from decide_eq_true hyes.out]; rfl, by rw [show addV t.length l d = l ++ [d] from if_pos hyes.out]; exact ⟨hT.out.1.ext hX, hfin⟩, fun k hk => .inr ⟨Nat.le_trans hB.out.2.2.2 (hn8.inF k hk), hn8.lt hk⟩, hX⟩)
    · cases c2 : (d.k != 5)
      · cases c3 : decide (d.w < 0)
        rotate_left
        · have hno := hide_ (show ¬ (VtOk t.length d ∧ ofV l d.k d.w d.f.toNat = none) from fun h => by have h1 := h.1.2.1.1; have h2 := of_decide_eq_true c3; omega)
          go_enter Try.func37, Try.ntmps37
          go_wp2_with ((first
            | go_big_skip
            | ((with_reducible refine at_box ?_); refine w_box _ [sv, u] rfl rfl rfl rfl ?_; intro b2 w1 hb2 hx f2; replace hX := hX.trans hx; clear hx)
            | ((with_reducible refine at_box ?_); refine w_box _ (vrow d) rfl rfl rfl rfl ?_; intro b3 w2 hb3 hx f3; replace f2 := f2.ext hx; replace hX := hX.trans hx; clear hx)
            | ((with_reducible refine at_alloc ?_); refine w_alloc Try.stTy rfl rfl ?_; intro b4 w3 hb4 hx f4; have n4 := hide_ (show b2 ≠ b4 ∧ b3 ≠ b4 from by have := f2.lt; have := f3.lt; exact ⟨by omega, by omega⟩); have hw4 := hide_ (Nat.le_trans hX.size hb4); replace f2 := f2.ext hx; replace f3 := f3.ext hx; replace hX := hX.trans hx; clear hx)
            | ((with_reducible refine at_load ?_); refine w_aload Try.stTy _ rfl rfl rfl f2 rfl ?_)
            | ((with_reducible refine at_load ?_); refine w_aload Try.stTy _ rfl rfl rfl f9 rfl ?_)
            | ((with_reducible refine at_load ?_); refine w_aload (cs := vrow d) Try.stVt _ rfl rfl rfl f3 rfl ?_)
            | ((with_reducible refine at_field ?_); (try refine w_yes _ _ _ rfl rfl rfl ?_); refine w_field Try.stVt _ _ _ rfl rfl rfl (by omega) ?_)
            | ((with_reducible refine at_field ?_); (try refine w_yes _ _ _ rfl rfl rfl ?_); refine w_field Try.stTy _ _ _ rfl rfl rfl (by omega) ?_)
            | ((with_reducible refine at_load ?_); (try refine w_yes _ _ _ rfl rfl rfl ?_); refine w_fload _ rfl rfl rfl f3 rfl (agg_of (by kernel_rfl)) ?_)
            | ((with_reducible refine at_load ?_); (try refine w_yes _ _ _ rfl rfl rfl ?_); refine w_fload _ rfl rfl rfl f2 rfl (agg_of (by kernel_rfl)) ?_)
            | ((with_reducible refine at_bi ?_); (try refine w_yes _ _ _ rfl rfl rfl ?_); refine i_len _ rfl rfl rfl (hT.out.1.ext hX) ?_)
            | (go_at_call 18; refine (Of_any (hT.out.ext hX) hlen.out hr.out).mono ?_; rintro e w4 ⟨he, hx⟩; replace he : e = .returned (.tuple #[.int .i64 0, .bool false]) := he; subst he; replace f2 := f2.ext hx; replace f3 := f3.ext hx; replace f4 := f4.ext hx; have h4l := hide_ f4.lt; replace hX := hX.trans hx; clear hx)
            | (refine wpList_runs rfl (runs_extract rfl rfl rfl) ?_; simp only [List.getElem_toArray, List.getElem_cons_succ, List.getElem_cons_zero])
            | ((with_reducible refine at_store ?_); refine w_astore Try.stTy (us := [sv, u]) _ _ rfl rfl rfl rfl rfl f4 rfl rfl hone.out ?_; intro w5 hm5 f5; replace hX := hm5.after hX (by intro j e; have e' : j = b4 := e; rw [e']; exact hw4.out))
            | fail) <;> (try simp only [Act.put, List.setIfInBounds_toArray, List.set_cons_zero, List.set_cons_succ]))
          exact bodyPost_ret (ret_two Try.stTy rfl rfl rfl f5 rfl) rfl (Keep.intro ⟨u, by rw [show addVok t.length l d = false from decide_eq_false hno.out]; rfl, by rw [show addV t.length l d = l from if_neg hno.out]; exact hT.out.ext hX, fun _ hk => .inl hk, hX⟩)
        cases c4 : decide (1000 < d.w)
        rotate_left
        · have hno := hide_ (show ¬ (VtOk t.length d ∧ ofV l d.k d.w d.f.toNat = none) from fun h => by have h1 := h.1.2.1.2; have h2 := of_decide_eq_true c4; omega)
          go_enter Try.func37, Try.ntmps37
          go_wp2_with ((first
            | go_big_skip
            | ((with_reducible refine at_box ?_); refine w_box _ [sv, u] rfl rfl rfl rfl ?_; intro b2 w1 hb2 hx f2; replace hX := hX.trans hx; clear hx)
            | ((with_reducible refine at_box ?_); refine w_box _ (vrow d) rfl rfl rfl rfl ?_; intro b3 w2 hb3 hx f3; replace f2 := f2.ext hx; replace hX := hX.trans hx; clear hx)
            | ((with_reducible refine at_alloc ?_); refine w_alloc Try.stTy rfl rfl ?_; intro b4 w3 hb4 hx f4; have n4 := hide_ (show b2 ≠ b4 ∧ b3 ≠ b4 from by have := f2.lt; have := f3.lt; exact ⟨by omega, by omega⟩); have hw4 := hide_ (Nat.le_trans hX.size hb4); replace f2 := f2.ext hx; replace f3 := f3.ext hx; replace hX := hX.trans hx; clear hx)
            | ((with_reducible refine at_load ?_); refine w_aload Try.stTy _ rfl rfl rfl f2 rfl ?_)
            | ((with_reducible refine at_load ?_); refine w_aload Try.stTy _ rfl rfl rfl f9 rfl ?_)
            | ((with_reducible refine at_load ?_); refine w_aload (cs := vrow d) Try.stVt _ rfl rfl rfl f3 rfl ?_)
            | ((with_reducible refine at_field ?_); (try refine w_yes _ _ _ rfl rfl rfl ?_); refine w_field Try.stVt _ _ _ rfl rfl rfl (by omega) ?_)
            | ((with_reducible refine at_field ?_); (try refine w_yes _ _ _ rfl rfl rfl ?_); refine w_field Try.stTy _ _ _ rfl rfl rfl (by omega) ?_)
            | ((with_reducible refine at_load ?_); (try refine w_yes _ _ _ rfl rfl rfl ?_); refine w_fload _ rfl rfl rfl f3 rfl (agg_of (by kernel_rfl)) ?_)
            | ((with_reducible refine at_load ?_); (try refine w_yes _ _ _ rfl rfl rfl ?_); refine w_fload _ rfl rfl rfl f2 rfl (agg_of (by kernel_rfl)) ?_)
            | ((with_reducible refine at_bi ?_); (try refine w_yes _ _ _ rfl rfl rfl ?_); refine i_len _ rfl rfl rfl (hT.out.1.ext hX) ?_)
            | (go_at_call 18; refine (Of_any (hT.out.ext hX) hlen.out hr.out).mono ?_; rintro e w4 ⟨he, hx⟩; replace he : e = .returned (.tuple #[.int .i64 0, .bool false]) := he; subst he; replace f2 := f2.ext hx; replace f3 := f3.ext hx; replace f4 := f4.ext hx; have h4l := hide_ f4.lt; replace hX := hX.trans hx; clear hx)
            | (refine wpList_runs rfl (runs_extract rfl rfl rfl) ?_; simp only [List.getElem_toArray, List.getElem_cons_succ, List.getElem_cons_zero])
            | ((with_reducible refine at_store ?_); refine w_astore Try.stTy (us := [sv, u]) _ _ rfl rfl rfl rfl rfl f4 rfl rfl hone.out ?_; intro w5 hm5 f5; replace hX := hm5.after hX (by intro j e; have e' : j = b4 := e; rw [e']; exact hw4.out))
            | fail) <;> (try simp only [Act.put, List.setIfInBounds_toArray, List.set_cons_zero, List.set_cons_succ]))
          exact bodyPost_ret (ret_two Try.stTy rfl rfl rfl f5 rfl) rfl (Keep.intro ⟨u, by rw [show addVok t.length l d = false from decide_eq_false hno.out]; rfl, by rw [show addV t.length l d = l from if_neg hno.out]; exact hT.out.ext hX, fun _ hk => .inl hk, hX⟩)
        cases c5 : decide (d.f < 0)
        rotate_left
        · have hno := hide_ (show ¬ (VtOk t.length d ∧ ofV l d.k d.w d.f.toNat = none) from fun h => by have h1 := h.1.2.2.1.1; have h2 := of_decide_eq_true c5; omega)
          go_enter Try.func37, Try.ntmps37
          go_wp2_with ((first
            | go_big_skip
            | ((with_reducible refine at_box ?_); refine w_box _ [sv, u] rfl rfl rfl rfl ?_; intro b2 w1 hb2 hx f2; replace hX := hX.trans hx; clear hx)
            | ((with_reducible refine at_box ?_); refine w_box _ (vrow d) rfl rfl rfl rfl ?_; intro b3 w2 hb3 hx f3; replace f2 := f2.ext hx; replace hX := hX.trans hx; clear hx)
            | ((with_reducible refine at_alloc ?_); refine w_alloc Try.stTy rfl rfl ?_; intro b4 w3 hb4 hx f4; have n4 := hide_ (show b2 ≠ b4 ∧ b3 ≠ b4 from by have := f2.lt; have := f3.lt; exact ⟨by omega, by omega⟩); have hw4 := hide_ (Nat.le_trans hX.size hb4); replace f2 := f2.ext hx; replace f3 := f3.ext hx; replace hX := hX.trans hx; clear hx)
            | ((with_reducible refine at_load ?_); refine w_aload Try.stTy _ rfl rfl rfl f2 rfl ?_)
            | ((with_reducible refine at_load ?_); refine w_aload Try.stTy _ rfl rfl rfl f9 rfl ?_)
            | ((with_reducible refine at_load ?_); refine w_aload (cs := vrow d) Try.stVt _ rfl rfl rfl f3 rfl ?_)
            | ((with_reducible refine at_field ?_); (try refine w_yes _ _ _ rfl rfl rfl ?_); refine w_field Try.stVt _ _ _ rfl rfl rfl (by omega) ?_)
            | ((with_reducible refine at_field ?_); (try refine w_yes _ _ _ rfl rfl rfl ?_); refine w_field Try.stTy _ _ _ rfl rfl rfl (by omega) ?_)
            | ((with_reducible refine at_load ?_); (try refine w_yes _ _ _ rfl rfl rfl ?_); refine w_fload _ rfl rfl rfl f3 rfl (agg_of (by kernel_rfl)) ?_)
            | ((with_reducible refine at_load ?_); (try refine w_yes _ _ _ rfl rfl rfl ?_); refine w_fload _ rfl rfl rfl f2 rfl (agg_of (by kernel_rfl)) ?_)
            | ((with_reducible refine at_bi ?_); (try refine w_yes _ _ _ rfl rfl rfl ?_); refine i_len _ rfl rfl rfl (hT.out.1.ext hX) ?_)
            | (go_at_call 18; refine (Of_any (hT.out.ext hX) hlen.out hr.out).mono ?_; rintro e w4 ⟨he, hx⟩; replace he : e = .returned (.tuple #[.int .i64 0, .bool false]) := he; subst he; replace f2 := f2.ext hx; replace f3 := f3.ext hx; replace f4 := f4.ext hx; have h4l := hide_ f4.lt; replace hX := hX.trans hx; clear hx)
            | (refine wpList_runs rfl (runs_extract rfl rfl rfl) ?_; simp only [List.getElem_toArray, List.getElem_cons_succ, List.getElem_cons_zero])
            | ((with_reducible refine at_store ?_); refine w_astore Try.stTy (us := [sv, u]) _ _ rfl rfl rfl rfl rfl f4 rfl rfl hone.out ?_; intro w5 hm5 f5; replace hX := hm5.after hX (by intro j e; have e' : j = b4 := e; rw [e']; exact hw4.out))
            | fail) <;> (try simp only [Act.put, List.setIfInBounds_toArray, List.set_cons_zero, List.set_cons_succ]))
          exact bodyPost_ret (ret_two Try.stTy rfl rfl rfl f5 rfl) rfl (Keep.intro ⟨u, by rw [show addVok t.length l d = false from decide_eq_false hno.out]; rfl, by rw [show addV t.length l d = l from if_neg hno.out]; exact hT.out.ext hX, fun _ hk => .inl hk, hX⟩)
        cases c6 : decide ((t.length : Int) ≤ d.f)
        rotate_left
        · have hno := hide_ (show ¬ (VtOk t.length d ∧ ofV l d.k d.w d.f.toNat = none) from fun h => by have h1 := h.1.2.2.1.2; have h2 := of_decide_eq_true c6; omega)
          go_enter Try.func37, Try.ntmps37
          go_wp2_with ((first
            | go_big_skip
            | ((with_reducible refine at_box ?_); refine w_box _ [sv, u] rfl rfl rfl rfl ?_; intro b2 w1 hb2 hx f2; replace hX := hX.trans hx; clear hx)
            | ((with_reducible refine at_box ?_); refine w_box _ (vrow d) rfl rfl rfl rfl ?_; intro b3 w2 hb3 hx f3; replace f2 := f2.ext hx; replace hX := hX.trans hx; clear hx)
            | ((with_reducible refine at_alloc ?_); refine w_alloc Try.stTy rfl rfl ?_; intro b4 w3 hb4 hx f4; have n4 := hide_ (show b2 ≠ b4 ∧ b3 ≠ b4 from by have := f2.lt; have := f3.lt; exact ⟨by omega, by omega⟩); have hw4 := hide_ (Nat.le_trans hX.size hb4); replace f2 := f2.ext hx; replace f3 := f3.ext hx; replace hX := hX.trans hx; clear hx)
            | ((with_reducible refine at_load ?_); refine w_aload Try.stTy _ rfl rfl rfl f2 rfl ?_)
            | ((with_reducible refine at_load ?_); refine w_aload Try.stTy _ rfl rfl rfl f9 rfl ?_)
            | ((with_reducible refine at_load ?_); refine w_aload (cs := vrow d) Try.stVt _ rfl rfl rfl f3 rfl ?_)
            | ((with_reducible refine at_field ?_); (try refine w_yes _ _ _ rfl rfl rfl ?_); refine w_field Try.stVt _ _ _ rfl rfl rfl (by omega) ?_)
            | ((with_reducible refine at_field ?_); (try refine w_yes _ _ _ rfl rfl rfl ?_); refine w_field Try.stTy _ _ _ rfl rfl rfl (by omega) ?_)
            | ((with_reducible refine at_load ?_); (try refine w_yes _ _ _ rfl rfl rfl ?_); refine w_fload _ rfl rfl rfl f3 rfl (agg_of (by kernel_rfl)) ?_)
            | ((with_reducible refine at_load ?_); (try refine w_yes _ _ _ rfl rfl rfl ?_); refine w_fload _ rfl rfl rfl f2 rfl (agg_of (by kernel_rfl)) ?_)
            | ((with_reducible refine at_bi ?_); (try refine w_yes _ _ _ rfl rfl rfl ?_); refine i_len _ rfl rfl rfl (hT.out.1.ext hX) ?_)
            | (go_at_call 18; refine (Of_any (hT.out.ext hX) hlen.out hr.out).mono ?_; rintro e w4 ⟨he, hx⟩; replace he : e = .returned (.tuple #[.int .i64 0, .bool false]) := he; subst he; replace f2 := f2.ext hx; replace f3 := f3.ext hx; replace f4 := f4.ext hx; have h4l := hide_ f4.lt; replace hX := hX.trans hx; clear hx)
            | (refine wpList_runs rfl (runs_extract rfl rfl rfl) ?_; simp only [List.getElem_toArray, List.getElem_cons_succ, List.getElem_cons_zero])
            | ((with_reducible refine at_store ?_); refine w_astore Try.stTy (us := [sv, u]) _ _ rfl rfl rfl rfl rfl f4 rfl rfl hone.out ?_; intro w5 hm5 f5; replace hX := hm5.after hX (by intro j e; have e' : j = b4 := e; rw [e']; exact hw4.out))
            | fail) <;> (try simp only [Act.put, List.setIfInBounds_toArray, List.set_cons_zero, List.set_cons_succ]))
          exact bodyPost_ret (ret_two Try.stTy rfl rfl rfl f5 rfl) rfl (Keep.intro ⟨u, by rw [show addVok t.length l d = false from decide_eq_false hno.out]; rfl, by rw [show addV t.length l d = l from if_neg hno.out]; exact hT.out.ext hX, fun _ hk => .inl hk, hX⟩)
        cases c7 : decide (d.x < -1)
        rotate_left
        · have hno := hide_ (show ¬ (VtOk t.length d ∧ ofV l d.k d.w d.f.toNat = none) from fun h => by have h1 := h.1.2.2.2; have h2 := of_decide_eq_true c7; omega)
          go_enter Try.func37, Try.ntmps37
          go_wp2_with ((first
            | go_big_skip
            | ((with_reducible refine at_box ?_); refine w_box _ [sv, u] rfl rfl rfl rfl ?_; intro b2 w1 hb2 hx f2; replace hX := hX.trans hx; clear hx)
            | ((with_reducible refine at_box ?_); refine w_box _ (vrow d) rfl rfl rfl rfl ?_; intro b3 w2 hb3 hx f3; replace f2 := f2.ext hx; replace hX := hX.trans hx; clear hx)
            | ((with_reducible refine at_alloc ?_); refine w_alloc Try.stTy rfl rfl ?_; intro b4 w3 hb4 hx f4; have n4 := hide_ (show b2 ≠ b4 ∧ b3 ≠ b4 from by have := f2.lt; have := f3.lt; exact ⟨by omega, by omega⟩); have hw4 := hide_ (Nat.le_trans hX.size hb4); replace f2 := f2.ext hx; replace f3 := f3.ext hx; replace hX := hX.trans hx; clear hx)
            | ((with_reducible refine at_load ?_); refine w_aload Try.stTy _ rfl rfl rfl f2 rfl ?_)
            | ((with_reducible refine at_load ?_); refine w_aload Try.stTy _ rfl rfl rfl f9 rfl ?_)
            | ((with_reducible refine at_load ?_); refine w_aload (cs := vrow d) Try.stVt _ rfl rfl rfl f3 rfl ?_)
            | ((with_reducible refine at_field ?_); (try refine w_yes _ _ _ rfl rfl rfl ?_); refine w_field Try.stVt _ _ _ rfl rfl rfl (by omega) ?_)
            | ((with_reducible refine at_field ?_); (try refine w_yes _ _ _ rfl rfl rfl ?_); refine w_field Try.stTy _ _ _ rfl rfl rfl (by omega) ?_)
            | ((with_reducible refine at_load ?_); (try refine w_yes _ _ _ rfl rfl rfl ?_); refine w_fload _ rfl rfl rfl f3 rfl (agg_of (by kernel_rfl)) ?_)
            | ((with_reducible refine at_load ?_); (try refine w_yes _ _ _ rfl rfl rfl ?_); refine w_fload _ rfl rfl rfl f2 rfl (agg_of (by kernel_rfl)) ?_)
            | ((with_reducible refine at_bi ?_); (try refine w_yes _ _ _ rfl rfl rfl ?_); refine i_len _ rfl rfl rfl (hT.out.1.ext hX) ?_)
            | (go_at_call 18; refine (Of_any (hT.out.ext hX) hlen.out hr.out).mono ?_; rintro e w4 ⟨he, hx⟩; replace he : e = .returned (.tuple #[.int .i64 0, .bool false]) := he; subst he; replace f2 := f2.ext hx; replace f3 := f3.ext hx; replace f4 := f4.ext hx; have h4l := hide_ f4.lt; replace hX := hX.trans hx; clear hx)
            | (refine wpList_runs rfl (runs_extract rfl rfl rfl) ?_; simp only [List.getElem_toArray, List.getElem_cons_succ, List.getElem_cons_zero])
            | ((with_reducible refine at_store ?_); refine w_astore Try.stTy (us := [sv, u]) _ _ rfl rfl rfl rfl rfl f4 rfl rfl hone.out ?_; intro w5 hm5 f5; replace hX := hm5.after hX (by intro j e; have e' : j = b4 := e; rw [e']; exact hw4.out))
            | fail) <;> (try simp only [Act.put, List.setIfInBounds_toArray, List.set_cons_zero, List.set_cons_succ]))
          exact bodyPost_ret (ret_two Try.stTy rfl rfl rfl f5 rfl) rfl (Keep.intro ⟨u, by rw [show addVok t.length l d = false from decide_eq_false hno.out]; rfl, by rw [show addV t.length l d = l from if_neg hno.out]; exact hT.out.ext hX, fun _ hk => .inl hk, hX⟩)
        have hyes := hide_ (show VtOk t.length d ∧ ofV l d.k d.w d.f.toNat = none from ⟨⟨.inr (by simpa using c2), ⟨by simpa using c3, by simpa using c4⟩, ⟨by simpa using c5, by simpa using c6⟩, by simpa using c7⟩, (hsame.out (by simpa using c5)).symm.trans hr.out⟩)
        go_enter Try.func37, Try.ntmps37
        go_wp2_with ((first
          | go_big_skip
          | ((with_reducible refine at_box ?_); refine w_box _ [sv, u] rfl rfl rfl rfl ?_; intro b2 w1 hb2 hx f2; have hw2 := hide_ hb2; replace hX := hX.trans hx; clear hx)
          | ((with_reducible refine at_box ?_); refine w_box _ (vrow d) rfl rfl rfl rfl ?_; intro b3 w2 hb3 hx f3; replace f2 := f2.ext hx; replace hX := hX.trans hx; clear hx)
          | ((with_reducible refine at_alloc ?_); refine w_alloc Try.stTy rfl rfl ?_; intro b4 w3 hb4 hx f4; have n4 := hide_ (show b2 ≠ b4 ∧ b3 ≠ b4 from by have := f2.lt; have := f3.lt; exact ⟨by omega, by omega⟩); have hw4 := hide_ (Nat.le_trans hX.size hb4); replace f2 := f2.ext hx; replace f3 := f3.ext hx; replace hX := hX.trans hx; clear hx)
          | ((with_reducible refine at_load ?_); refine w_aload Try.stTy _ rfl rfl rfl f2 rfl ?_)
          | ((with_reducible refine at_load ?_); refine w_aload Try.stTy _ rfl rfl rfl f9 rfl ?_)
          | ((with_reducible refine at_load ?_); refine w_aload (cs := vrow d) Try.stVt _ rfl rfl rfl f3 rfl ?_)
          | ((with_reducible refine at_field ?_); (try refine w_yes _ _ _ rfl rfl rfl ?_); refine w_field Try.stVt _ _ _ rfl rfl rfl (by omega) ?_)
          | ((with_reducible refine at_field ?_); (try refine w_yes _ _ _ rfl rfl rfl ?_); refine w_field Try.stTy _ _ _ rfl rfl rfl (by omega) ?_)
          | ((with_reducible refine at_load ?_); (try refine w_yes _ _ _ rfl rfl rfl ?_); refine w_fload _ rfl rfl rfl f3 rfl (agg_of (by kernel_rfl)) ?_)
          | ((with_reducible refine at_load ?_); (try refine w_yes _ _ _ rfl rfl rfl ?_); refine w_fload _ rfl rfl rfl f2 rfl (agg_of (by kernel_rfl)) ?_)
          | ((with_reducible refine at_bi ?_); (try refine w_yes _ _ _ rfl rfl rfl ?_); refine i_len _ rfl rfl rfl (hT.out.1.ext hX) ?_)
          | (go_at_call 18; refine (Of_any (hT.out.ext hX) hlen.out hr.out).mono ?_; rintro e w4 ⟨he, hx⟩; replace he : e = .returned (.tuple #[.int .i64 0, .bool false]) := he; subst he; replace f2 := f2.ext hx; replace f3 := f3.ext hx; replace f4 := f4.ext hx; have h4l := hide_ f4.lt; replace hX := hX.trans hx; clear hx)
          | (refine wpList_runs rfl (runs_extract rfl rfl rfl) ?_; simp only [List.getElem_toArray, List.getElem_cons_succ, List.getElem_cons_zero])
          | ((with_reducible refine at_lit ?_); refine w_nnew (o := ⟨some 60, _, _, _, _, _⟩) Try.elVtN [] rfl rfl rfl (by simp) rfl (by omega) ?_; intro v60 w5 B hB1 hB2 hx hn; have hB := hide_ (show b2 < B ∧ b3 < B ∧ b4 < B ∧ w.heap.size ≤ B from by have := f2.lt; have := f3.lt; have := f4.lt; have := hX.size; exact ⟨by omega, by omega, by omega, by omega⟩); replace hn := hn.mono (G := fun k => B ≤ k) fun k hk => hk.1; replace f2 := f2.ext hx; replace f3 := f3.ext hx; replace f4 := f4.ext hx; replace hX := hX.trans hx; have hBw := hide_ hB2; clear hx hB1 hB2)
          | ((with_reducible refine at_bi ?_); refine w_napp0 (o := ⟨some 63, _, _, _, _, _⟩) Try.elVtN _ _ rfl rfl rfl rfl hn (hsl.out.ext hX) hvo.out hbig.out ?_; intro v63 w6 hm6 hn6; rw [List.nil_append] at hn6; replace hn6 := hn6.mono (G := fun k => B ≤ k) fun k hk => hk.elim id fun h => Nat.le_trans hBw.out h.1; have hw56 := hide_ (Nat.le_trans hBw.out hm6.size); replace f2 := f2.mod hm6 (Nat.not_le.2 hB.out.1); replace f3 := f3.mod hm6 (Nat.not_le.2 hB.out.2.1); replace f4 := f4.mod hm6 (Nat.not_le.2 hB.out.2.2.1); replace hX := hm6.after hX (fun i hi => Nat.le_trans hB.out.2.2.2 hi); clear hm6 hn)
          | ((with_reducible refine at_lit ?_); refine w_nnew (o := ⟨some 66, _, _, _, _, _⟩) Try.elVtN [vrow d] rfl rfl rfl (by intro y hy; simp at hy; subst hy; rfl) rfl (by omega) ?_; intro v66 w7 B7 hB1 hB2 hx hn7; have hl7 := hn7.slS; replace hn6 := hn6.ext hx; have hw67 := hide_ (Nat.le_trans hw56.out hx.size); replace f2 := f2.ext hx; replace f3 := f3.ext hx; replace f4 := f4.ext hx; replace hX := hX.trans hx; clear hx hB1 hB2 hn7)
          | ((with_reducible refine at_bi ?_); refine w_napp (o := ⟨some 67, _, _, _, _, _⟩) Try.elVtN _ _ rfl rfl rfl rfl hn6 hl7 (by simp) (by intro y hy; simp at hy; subst hy; exact vt_one d) hbig2.out ?_; intro v67 w8 hm8 hn8; replace hn8 := hn8.mono (G := fun k => B ≤ k) fun k hk => hk.elim id fun h => Nat.le_trans hw67.out h.1; replace f2 := f2.mod hm8 (Nat.not_le.2 hB.out.1); replace f4 := f4.mod hm8 (Nat.not_le.2 hB.out.2.2.1); replace hX := hm8.after hX (fun i hi => Nat.le_trans hB.out.2.2.2 hi); clear hm8 hn6 f3 hl7)
          | ((with_reducible refine at_store ?_); refine w_fstore _ _ rfl rfl rfl rfl rfl f2 (by simp) (oneCell_cells (rown_one hn8)) (rown_one hn8) (by kernel_rfl) ?_; intro w9 hm9 f9; replace f9 : Fs w9 b2 [sv, v67] := f9; replace hn8 := hn8.mod hm9 (fun k hk e => by have e' : k = b2 := e; have hk' : B ≤ k := hk; have := hB.out.1; omega); replace f4 := f4.mod hm9 (fun e => n4.out.1 e.symm); replace hX := hm9.after hX (by intro j e; have e' : j = b2 := e; rw [e']; exact hw2.out))
          | ((with_reducible refine at_store ?_); refine w_astore Try.stTy (us := [sv, v67]) _ _ rfl rfl rfl rfl rfl f4 rfl rfl (by intro z hz; simp at hz; rcases hz with rfl | rfl; exact hone.out _ (by simp); exact rown_one hn8) ?_; intro wA hmA fA; replace hn8 := hn8.mod hmA (fun k hk e => by have e' : k = b4 := e; have hk' : B ≤ k := hk; have := hB.out.2.2.1; omega); replace hX := hmA.after hX (by intro j e; have e' : j = b4 := e; rw [e']; exact hw4.out))
          | fail) <;> (try simp only [Act.put, List.setIfInBounds_toArray, List.set_cons_zero, List.set_cons_succ]))
        have hfin := vts_of (l := l ++ [d]) (by rw [List.map_append]; exact hn8) hfit.out
        exact bodyPost_ret (ret_two Try.stTy rfl rfl rfl fA rfl) rfl (Keep.intro ⟨v67, by rw [show addVok t.length l d = true from decide_eq_true hyes.out]; rfl, by rw [show addV t.length l d = l ++ [d] from if_pos hyes.out]; exact ⟨hT.out.1.ext hX, hfin⟩, fun k hk => .inr ⟨Nat.le_trans hB.out.2.2.2 (hn8.inF k hk), hn8.lt hk⟩, hX⟩)
      · have hno := hide_ (show ¬ (VtOk t.length d ∧ ofV l d.k d.w d.f.toNat = none) from fun h => by have h1 := h.1.1; simp only [bne_iff_ne, ne_eq] at c1 c2; omega)
        go_enter Try.func37, Try.ntmps37
        go_wp2_with ((first
          | go_big_skip
          | ((with_reducible refine at_box ?_); refine w_box _ [sv, u] rfl rfl rfl rfl ?_; intro b2 w1 hb2 hx f2; replace hX := hX.trans hx; clear hx)
          | ((with_reducible refine at_box ?_); refine w_box _ (vrow d) rfl rfl rfl rfl ?_; intro b3 w2 hb3 hx f3; replace f2 := f2.ext hx; replace hX := hX.trans hx; clear hx)
          | ((with_reducible refine at_alloc ?_); refine w_alloc Try.stTy rfl rfl ?_; intro b4 w3 hb4 hx f4; have n4 := hide_ (show b2 ≠ b4 ∧ b3 ≠ b4 from by have := f2.lt; have := f3.lt; exact ⟨by omega, by omega⟩); have hw4 := hide_ (Nat.le_trans hX.size hb4); replace f2 := f2.ext hx; replace f3 := f3.ext hx; replace hX := hX.trans hx; clear hx)
          | ((with_reducible refine at_load ?_); refine w_aload Try.stTy _ rfl rfl rfl f2 rfl ?_)
          | ((with_reducible refine at_load ?_); refine w_aload Try.stTy _ rfl rfl rfl f9 rfl ?_)
          | ((with_reducible refine at_load ?_); refine w_aload (cs := vrow d) Try.stVt _ rfl rfl rfl f3 rfl ?_)
          | ((with_reducible refine at_field ?_); (try refine w_yes _ _ _ rfl rfl rfl ?_); refine w_field Try.stVt _ _ _ rfl rfl rfl (by omega) ?_)
          | ((with_reducible refine at_field ?_); (try refine w_yes _ _ _ rfl rfl rfl ?_); refine w_field Try.stTy _ _ _ rfl rfl rfl (by omega) ?_)
          | ((with_reducible refine at_load ?_); (try refine w_yes _ _ _ rfl rfl rfl ?_); refine w_fload _ rfl rfl rfl f3 rfl (agg_of (by kernel_rfl)) ?_)
          | ((with_reducible refine at_load ?_); (try refine w_yes _ _ _ rfl rfl rfl ?_); refine w_fload _ rfl rfl rfl f2 rfl (agg_of (by kernel_rfl)) ?_)
          | ((with_reducible refine at_bi ?_); (try refine w_yes _ _ _ rfl rfl rfl ?_); refine i_len _ rfl rfl rfl (hT.out.1.ext hX) ?_)
          | (go_at_call 18; refine (Of_any (hT.out.ext hX) hlen.out hr.out).mono ?_; rintro e w4 ⟨he, hx⟩; replace he : e = .returned (.tuple #[.int .i64 0, .bool false]) := he; subst he; replace f2 := f2.ext hx; replace f3 := f3.ext hx; replace f4 := f4.ext hx; have h4l := hide_ f4.lt; replace hX := hX.trans hx; clear hx)
          | (refine wpList_runs rfl (runs_extract rfl rfl rfl) ?_; simp only [List.getElem_toArray, List.getElem_cons_succ, List.getElem_cons_zero])
          | ((with_reducible refine at_store ?_); refine w_astore Try.stTy (us := [sv, u]) _ _ rfl rfl rfl rfl rfl f4 rfl rfl hone.out ?_; intro w5 hm5 f5; replace hX := hm5.after hX (by intro j e; have e' : j = b4 := e; rw [e']; exact hw4.out))
          | fail) <;> (try simp only [Act.put, List.setIfInBounds_toArray, List.set_cons_zero, List.set_cons_succ]))
        exact bodyPost_ret (ret_two Try.stTy rfl rfl rfl f5 rfl) rfl (Keep.intro ⟨u, by rw [show addVok t.length l d = false from decide_eq_false hno.out]; rfl, by rw [show addV t.length l d = l from if_neg hno.out]; exact hT.out.ext hX, fun _ hk => .inl hk, hX⟩)
end Go.Proofs.Ytmhmkaginnddeaa
