/- The views above another one, as a function that is ranged over. -/
import Derived.Test.YtmhmkaginnddeaaTlE
namespace Go.Proofs.Ytmhmkaginnddeaa
set_option maxRecDepth 100000
open Go.RowKit

set_option maxRecDepth 100000 in
set_option maxHeartbeats 1600000 in
theorem Backward_any (v : Value) (w : World) (hv : v.cells.toList = [v]) : Calls Try.prog 45 #[v] w fun e w' => ∃ cb, e = .returned (.func (.func 51) #[] #[.pointer (some ⟨cb, 0, none⟩)]) ∧ Fs w' cb [v] ∧ w.heap.size ≤ cb ∧ Ext w w' := by
  refine calls_keep ?_
  go_enter Try.func45, Try.ntmps45
  go_wp2_with ((first
    | ((with_reducible refine at_box ?_); refine w_box _ [v] rfl rfl rfl hv ?_; intro cb w2 hcb hx f2)
    | fail) <;> (try simp only [Act.put, List.setIfInBounds_toArray, List.set_cons_zero, List.set_cons_succ]))
  go_ret
  exact Keep.intro ⟨cb, rfl, f2, hcb, hx⟩
set_option maxRecDepth 100000 in
set_option maxHeartbeats 1600000 in
theorem viewsAbove_any (p : Nat) (view : Int) (w : World) : Calls Try.prog 32 #[.pointer (some ⟨p, 0, none⟩), .int .i64 view] w fun e w' =>
    ∃ b3 b4, e = .returned (.func (.func 44) #[] #[.pointer (some ⟨b3, 0, none⟩), .pointer (some ⟨b4, 0, none⟩)]) ∧ Fs w' b3 [.pointer (some ⟨p, 0, none⟩)] ∧ Fs w' b4 [.int .i64 view] ∧ w.heap.size ≤ b3 ∧ w.heap.size ≤ b4 ∧ Ext w w' := by
  refine calls_keep ?_
  have hX := Ext.refl w
  go_enter Try.func32, Try.ntmps32
  go_wp2_with ((first
    | ((with_reducible refine at_box ?_); refine w_box (.tmp 0) [.pointer (some ⟨p, 0, none⟩)] rfl rfl rfl rfl ?_; intro b3 w2 hb3 hx f3; replace hX := hX.trans hx; clear hx)
    | ((with_reducible refine at_box ?_); refine w_box (.tmp 1) [.int .i64 view] rfl rfl rfl rfl ?_; intro b4 w3 hb4 hx f4; replace f3 := f3.ext hx; have hs4 := hX.size; replace hX := hX.trans hx; clear hx)
    | fail) <;> (try simp only [Act.put, List.setIfInBounds_toArray, List.set_cons_zero, List.set_cons_succ]))
  go_ret
  exact Keep.intro ⟨b3, b4, rfl, f3, f4, hb3, Nat.le_trans hs4 hb4, hX⟩

/-! ### Those above, from behind -/
def ups (V : List Int) (view : Int) : List Int := (V.filter fun x => decide (view < x)).reverse
theorem ups_split (view : Int) : ∀ {V : List Int}, Rise V → ∃ A B, V = A ++ B ∧ (∀ x ∈ A, x ≤ view) ∧ ∀ x ∈ B, view < x
  | [], _ => ⟨[], [], rfl, (fun _ h => nomatch h), fun _ h => nomatch h⟩
  | y :: V, h => by
    obtain ⟨h1, h2⟩ := List.pairwise_cons.1 h
    by_cases hy : view < y
    · refine ⟨[], y :: V, rfl, (fun _ h => nomatch h), fun x hx => ?_⟩
      rcases List.mem_cons.1 hx with rfl | hx
      · exact hy
      · have := h1 x hx; omega
    · obtain ⟨A, B, e, hA, hB⟩ := ups_split view (V := V) h2
      refine ⟨y :: A, B, by rw [e]; rfl, fun x hx => ?_, hB⟩
      rcases List.mem_cons.1 hx with rfl | hx
      · omega
      · exact hA x hx
theorem ups_of {V A B : List Int} {view : Int} (e : V = A ++ B) (hA : ∀ x ∈ A, x ≤ view) (hB : ∀ x ∈ B, view < x) : ups V view = B.reverse := by
  unfold ups
  rw [e, List.filter_append, List.filter_eq_nil_iff.2 (by intro x hx; have := hA x hx; simp; omega), List.filter_eq_self.2 (by intro x hx; simpa using hB x hx)]
  rfl
theorem mem_ups {V : List Int} {view x : Int} : x ∈ ups V view ↔ x ∈ V ∧ view < x := by unfold ups; simp
theorem getD_rev (V : List Int) {k : Nat} (hk : k < V.length) : V.getD (V.length - 1 - k) 0 = V.reverse.getD k 0 := by
  rw [getD_at V (by omega), getD_at V.reverse (by simpa using hk), List.getElem_reverse]
/-- The k-th from behind is above, or all that are above have come. -/
theorem ups_at {V : List Int} (hV : Rise V) {view : Int} {k : Nat} (hk : k < V.length) : (view < V.getD (V.length - 1 - k) 0 → k < (ups V view).length ∧ (ups V view).getD k 0 = V.getD (V.length - 1 - k) 0) ∧ (V.getD (V.length - 1 - k) 0 ≤ view → (ups V view).length ≤ k) := by
  obtain ⟨A, B, e, hA, hB⟩ := ups_split view hV
  rw [getD_rev V hk, ups_of e hA hB]
  have hr : V.reverse = B.reverse ++ A.reverse := by rw [e, List.reverse_append]
  rw [hr]
  by_cases hkb : k < B.reverse.length
  · have e1 : (B.reverse ++ A.reverse).getD k 0 = B.reverse.getD k 0 := by simp [List.getD_eq_getElem?_getD, List.getElem?_append_left hkb]
    rw [e1]
    refine ⟨fun _ => ⟨hkb, rfl⟩, fun hle => ?_⟩
    have := hB (B.reverse.getD k 0) (by rw [getD_at B.reverse hkb]; exact List.mem_reverse.1 (List.getElem_mem hkb))
    omega
  · refine ⟨fun hlt => ?_, fun _ => by omega⟩
    exfalso
    have hkl : k < (B.reverse ++ A.reverse).length := by rw [← hr]; simpa using hk
    rw [getD_at _ hkl, List.getElem_append_right (by omega)] at hlt
    have h0 : k - B.reverse.length < A.reverse.length := by rw [List.length_append] at hkl; omega
    have := hA _ (List.mem_reverse.1 (List.getElem_mem h0))
    omega
theorem ups_rise {V : List Int} (hV : Rise V) {view : Int} {i j : Nat} (hij : i < j) (hj : j < (ups V view).length) : (ups V view).getD j 0 < (ups V view).getD i 0 := by
  have h : (ups V view).reverse.Pairwise (· < ·) := by unfold ups; rw [List.reverse_reverse]; exact hV.filter _
  rw [List.pairwise_reverse] at h
  rw [getD_at _ hj, getD_at _ (by omega)]
  exact List.pairwise_iff_getElem.1 h i j (by omega) hj hij

set_option maxRecDepth 100000 in
set_option maxHeartbeats 6400000 in
theorem above_seq {w : World} {b3 b4 p : Nat} {view : Int} {X G : Nat → Prop} {g N : Nat} {sv : Value} {D : DataW Value} {m : Int → Int → Option Nat} {t : List Int} {T : Tab} (hf3 : Fs w b3 [.pointer (some ⟨p, 0, none⟩)]) (hf4 : Fs w b4 [.int .i64 view]) (hT : TalW X w p sv g D m t T N) (hN : N ≤ 400)
    (hG4 : ¬ G b4) (hGX : ∀ k, G k → k < w.heap.size) : Seq Try.prog 44 #[.pointer (some ⟨b3, 0, none⟩), .pointer (some ⟨b4, 0, none⟩)] ((ups (vwsOf m) view).map fun x => #[.int .i64 x]) G w := by
  intro l J Jx W hX hJ hJx hY h0
  refine calls_fr (r := none) (n := 0) ?_
  refine callsIn_of_wp_marks Try.func44 rfl trivial ?_ rfl
  simp only [Try.ntmps44, List.size_toArray, List.length_cons, List.length_nil, Nat.reduceAdd, Nat.reduceSub, Array.replicate_succ, Array.replicate_zero, List.push_toArray, List.append_toArray, List.nil_append, List.cons_append]
  obtain ⟨V, hVe⟩ : ∃ V, vwsOf m = V := ⟨_, rfl⟩
  have hV := hide_ (show Vws T 1001 V from by rw [← hVe]; exact hT.vws)
  have f3 := hide_ (hf3.ext hX)
  have f4 := hide_ (hf4.ext hX)
  have hTW := hide_ (hT.ext hX)
  have hb34 := hide_ (show b3 < w.heap.size ∧ b4 < w.heap.size from ⟨hf3.lt, hf4.lt⟩)
  have hXX := Ext.refl W
  rw [hVe] at hY ⊢
  gi_wp2_with (refine listIn (by kernel_rfl) ?_; go_wp2_with ((first
    | ((with_reducible refine at_box ?_); refine w_box _ [.func (.yield l) #[] #[]] rfl rfl rfl rfl ?_; intro c0 w2 hc0 hx f0; replace hXX := hXX.trans hx; clear hx)
    | ((with_reducible refine at_load ?_); refine w_fload _ rfl rfl rfl (f3.out.ext hXX) rfl (agg_of (by kernel_rfl)) ?_)
    | (go_at_call 30; refine (views_any (hTW.out.ext hXX) hN).mono ?_; rintro e w3 ⟨u, rfl, o3, hx⟩; rw [hVe] at o3; replace f0 := f0.ext hx; have hs3 := hXX.size; replace hXX := hXX.trans hx; clear hx)
    | (go_at_call 45; refine (Backward_any _ _ (by rw [oneCell_cells (Sl.one' o3.ints)])).mono ?_; rintro e w4 ⟨cb, rfl, f5, hcb, hx⟩; replace f0 := f0.ext hx; replace o3 := o3.ext hx; have hs4 := hXX.size; replace hXX := hXX.trans hx; clear hx)
    | (refine noOut_n ?_)
    | fail) <;> (try simp only [Act.put, List.setIfInBounds_toArray, List.set_cons_zero, List.set_cons_succ])))
  have hub := hide_ (fun j (hj : u.ownBlock = some j) => o3.own_lt hj)
  have hi3 := hide_ o3.ints
  have f50 := hide_ f5
  have hsW := hide_ (show W.heap.size ≤ w4.heap.size from hXX.size)
  have hcbW := hide_ (Nat.le_trans hs4 hcb)
  have hWw := hide_ hX.size
  obtain ⟨m0, hm0⟩ : ∃ m0, (ups V view).length = m0 := ⟨_, rfl⟩
  have hxs : ((ups V view).map fun x => (#[.int .i64 x] : Array Value)).length = m0 := by rw [List.length_map, hm0]
  refine wp_rangeSeq (gf := 51) (lb := #[.pointer (some ⟨cb, 0, none⟩)]) (G := fun b => G b ∨ (w.heap.size ≤ b ∧ b < W.heap.size)) (G1 := fun b => G b ∨ (w.heap.size ≤ b ∧ b < W.heap.size)) rfl (enters_of Try.func51 (by kernel_rfl) rfl)
    (back1_seq f5 o3.ints (Nat.le_trans hV.out.len (by omega)) (fun h => ?g1) (fun j hj => ⟨fun h => ?g2, (hub.out j hj).2⟩)) (Ext.refl _) (fun x hx => ?sz) (fun b hb => ⟨?g3, .inl hb⟩)
    (fun k A => J k A ∧ k ≤ m0 ∧ Fs A c0 [.func (.yield l) #[] #[]] ∧ Fs A b4 [.int .i64 view] ∧ W.heap.size ≤ A.heap.size) (fun c k A => c = .ret ∧ ((k ≤ m0 + 1 ∧ J m0 A) ∨ ∃ j, j ≤ m0 ∧ Jx j A)) ?sI ?sIx ?i0
    (fun k => { tmps := #[.func (.yield l) #[] #[], .pointer (some ⟨b3, 0, none⟩), .pointer (some ⟨b4, 0, none⟩), .pointer (some ⟨c0, 0, none⟩), undef, .int .i64 (V.getD (V.length - 1 - k) 0), .pointer (some ⟨p, 0, none⟩), u, .func (.func 51) #[] #[.pointer (some ⟨cb, 0, none⟩)], .int .i64 ((V.length - 1 - k : Nat) : Int), .int .i64 (V.getD (V.length - 1 - k) 0), undef, undef, undef, undef, undef, undef, undef, undef, undef], defers := [] }) ?assign ?body ?done ?stop
  case assign =>
    intro l2 k hk W2 K hK
    rw [backs_at]
    simp only [Array.zip_eq_zipWith, List.zipWith_toArray, List.zipWith_cons_cons, List.zipWith_nil_left]
    try dsimp only at hK
    obtain ⟨x, hx⟩ : ∃ x, V.getD (V.length - 1 - k) 0 = x := ⟨_, rfl⟩
    obtain ⟨ix, hix⟩ : ∃ ix : Int, ((V.length - 1 - k : Nat) : Int) = ix := ⟨_, rfl⟩
    rw [hx, hix] at hK ⊢
    clear hx hix
    refine region_in (by kernel_rfl) ?_
    go_wp2_with (refine noOut_n ?_)
    exact hK
  case body =>
    rintro l2 k hk0 W2 hsz ⟨hj0, hkm, g0, g4, hsW2⟩
    rw [backs_len] at hk0
    have hat := ups_at hV.out.rise (view := view) hk0
    try dsimp only
    obtain ⟨x, hx⟩ : ∃ x, V.getD (V.length - 1 - k) 0 = x := ⟨_, rfl⟩
    obtain ⟨ix, hix⟩ : ∃ ix : Int, ((V.length - 1 - k : Nat) : Int) = ix := ⟨_, rfl⟩
    rw [hx] at hat
    rw [hx, hix]
    clear hx hix
    by_cases hle : x ≤ view
    · have t1 : decide (x ≤ view) = true := decide_eq_true hle
      have hmk : k = m0 := by have := hat.2 hle; omega
      clear hat hle
      gi_wp2_with (first
        | (refine listIn (l := ⟨some 12, _, _, _, _, _⟩ :: _) (by kernel_rfl) ?_; go_wp2_with ((first
            | go_big_skip
            | ((with_reducible refine at_load ?_); refine w_fload _ rfl rfl rfl g4 rfl (agg_of (by kernel_rfl)) ?_)
            | (refine noOut_n ?_)
            | fail) <;> (try simp only [Act.put, List.setIfInBounds_toArray, List.set_cons_zero, List.set_cons_succ])))
        | fail)
      subst hmk
      exact ⟨Mod.refl _ _, rfl, .inl ⟨by omega, hj0⟩⟩
    · have t1 : decide (x ≤ view) = false := decide_eq_false hle
      obtain ⟨hku, hxu⟩ := hat.1 (by omega)
      have hy := hide_ (hY k (by rw [hxs]; omega) W2 hsW2 hj0)
      have harg := hide_ (show ((ups V view).map fun x => (#[.int .i64 x] : Array Value))[k]'(by rw [hxs]; omega) = #[.int .i64 x] from by
        rw [List.getElem_map, ← getD_at _ hku, hxu])
      have hy2 := hide_ (harg.out ▸ hy.out : YieldAt Fence.wide 0 Try.prog l #[.int .i64 x] W2 _)
      clear hat hle
      gi_wp2_with (first
        | (refine listInTake 5 (l := ⟨some 12, _, _, _, _, _⟩ :: _) (by kernel_rfl) ?_; simp only [List.take_succ_cons, List.take_zero, List.drop_succ_cons, List.drop_zero]; go_wp2_with ((first
            | ((with_reducible refine at_load ?_); (try refine w_yes _ _ _ rfl rfl rfl ?_); refine w_fload (.tmp 2) rfl rfl rfl g4 rfl (agg_of (by kernel_rfl)) ?_)
            | ((with_reducible refine at_load ?_); (try refine w_yes _ _ _ rfl rfl rfl ?_); refine w_fload (.tmp 3) rfl rfl rfl g0 rfl (agg_of (by kernel_rfl)) ?_)
            | fail) <;> (try simp only [Act.put, List.setIfInBounds_toArray, List.set_cons_zero, List.set_cons_succ])))
        | (refine wi_yes (o := ⟨some 17, _, _, _, _, _⟩) _ _ _ rfl rfl rfl ?_; refine w_yield0 (o := ⟨some 17, _, _, _, _, _⟩) _ rfl rfl rfl (by simp only [List.map_toArray, List.map_cons, List.map_nil, Act.eval]; rfl) hy2.out ?_; rintro e W3 ⟨hm, ⟨rfl, hj3⟩ | ⟨rfl, hj3⟩⟩ <;> refine ⟨_, rfl, ?_⟩ <;> simp only [Act.put, List.setIfInBounds_toArray, List.set_cons_zero, List.set_cons_succ])
        | (refine listIn (by kernel_rfl) ?_; go_wp2_with (refine noOut_n ?_))
        | fail)
      · have hn0 : ¬ (G c0 ∨ (w.heap.size ≤ c0 ∧ c0 < W.heap.size)) := fun h => by have := hWw.out; rcases h with h | h; have := hGX c0 h; omega; omega
        have hn4 : ¬ (G b4 ∨ (w.heap.size ≤ b4 ∧ b4 < W.heap.size)) := fun h => by have := hb34.out; rcases h with h | h; exact hG4 h; omega
        exact ⟨hm, hj3, by omega, g0.mod hm hn0, g4.mod hm hn4, Nat.le_trans hsW2 hm.size⟩
      · exact ⟨hm, rfl, .inr ⟨k + 1, by omega, hj3⟩⟩
  case g1 => have := hcbW.out; rcases h with h | h; have := hGX cb h; have := hWw.out; omega; omega
  case g2 => have := hub.out j hj; have := hWw.out; rcases h with h | h; have := hGX j h; omega; omega
  case sz => obtain ⟨k, hk, rfl⟩ := List.mem_map.1 hx; rfl
  case g3 => have := hsW.out; have := hWw.out; rcases hb with h | h; have := hGX b h; omega; omega
  case sI => exact fun k A B ⟨h1, h2, h3, h4, h5⟩ hb => ⟨hJ k A B h1 (hb.mono hsW.out), h2, h3.below hb f0.lt, h4.below hb (by have := hb34.out; have := hWw.out; have := hsW.out; omega), Nat.le_trans h5 hb.size⟩
  case sIx => exact fun c k A B ⟨h1, h2⟩ hb => ⟨h1, h2.imp (fun h => ⟨h.1, hJ _ A B h.2 (hb.mono hsW.out)⟩) fun ⟨j, h3, h4⟩ => ⟨j, h3, hJx j A B h4 (hb.mono hsW.out)⟩⟩
  case i0 => exact ⟨hJ 0 W w4 h0 hXX, Nat.zero_le _, f0, f4.out.ext hXX, hsW.out⟩
  case done =>
    rintro D2 W2 hD ⟨h1, h2, _, _, h5⟩ hK
    have hm0l : m0 = V.length := by
      have : (ups V view).length ≤ V.length := by unfold ups; rw [List.length_reverse]; exact List.length_filter_le _ _
      rw [backs_len] at h2; omega
    refine ⟨by simp, .inl ⟨_, _, rfl, run_takeDeferred hK, ?_⟩⟩
    refine ⟨_, results_none rfl _ _ _, ⟨_, rfl⟩, .inl ?_⟩
    rw [hxs, hm0l]
    rw [backs_len] at h1
    exact hJ _ _ _ h1 ((Mod.putObj _ _ _).below (by omega) (fun j e => by have := hsW.out; omega))
  case stop =>
    rintro D2 c k W2 hD hk ⟨rfl, h2⟩ hK
    have hb2 : Below W.heap.size W2 (W2.putObj D2 (.deferred none)) := (Mod.putObj _ _ _).below (by have := hsW.out; have := (Array.getElem?_eq_some_iff.1 hK).1; omega) (fun j e => by have := hsW.out; omega)
    refine wpIn_ret ?_
    refine ⟨by simp, .inl ⟨_, _, rfl, run_takeDeferred hK, ?_⟩⟩
    refine ⟨_, results_none rfl _ _ _, ⟨_, rfl⟩, ?_⟩
    rw [hxs]
    rcases h2 with ⟨_, h3⟩ | ⟨j, h3, h4⟩
    · exact .inl (hJ _ _ _ h3 hb2)
    · exact .inr ⟨j, h3, hJx _ _ _ h4 hb2⟩
end Go.Proofs.Ytmhmkaginnddeaa
