/- Package ledger: how many decisions are known; what is final; what is available. -/
import Derived.Test.YtdoeoncmhaihbaaLgA
import Derived.Test.YtdoeoncmhaihbaaCHG
namespace Go.Proofs.Ytdoeoncmhaihbaa
set_option maxRecDepth 100000
open Go.RowKit

theorem ChC.raw {H : Nat → Prop} {w : World} {q p : Nat} {dv : Value} {ds : List Int} {deep slot : Int} {K V : List BlkD} (h : ChC H w q p dv ds deep slot K V) : ∀ b ∈ K, b.Raw := fun b hb => by
  obtain ⟨X, g, v, h1, _⟩ := h.tr
  obtain ⟨u, _, h2⟩ := h1.hit (h.uq.get hb)
  exact h2.2.1
theorem ids_i64 {K : List BlkD} (h : ∀ b ∈ K, b.Raw) (n : Int) : I64s (ids K n) := by
  intro x hx
  unfold ids idsOf at hx
  obtain ⟨m, _, hx⟩ := List.mem_flatMap.1 hx
  unfold idl getOr at hx
  obtain ⟨t, ht, rfl⟩ := List.mem_map.1 hx
  cases hg : TrS.get K m with
  | none => rw [hg] at ht; simp [BlkD.zero] at ht
  | some b =>
    rw [hg] at ht
    have h1 := ((h b (TrS.get_some hg).1).txs t ht).id
    exact ⟨h1.1, h1.2⟩
theorem back_i64 {K : List BlkD} (h : TrS.Uq K) (hs : TrS.Stood K) (n s : Int) : I64 (backN (TrS.path K n) s) := by
  unfold backN
  cases hq : ((TrS.path K n).take ((TrS.path K n).length - s.toNat)).getLast? with
  | none => exact ⟨by simp, by simp⟩
  | some x => exact path_i64 h hs (n := n) (List.mem_of_mem_take (List.mem_of_getLast? hq))
theorem i64s_cl {l : List Int} (h : I64s l) : I64s (cl l) := fun x hx => h x (mem_cl.1 hx)
theorem i64s_take {l : List Int} (h : I64s l) (n : Nat) : I64s (l.take n) := fun x hx => h x (List.mem_of_mem_take hx)
theorem recs_one1 {w : World} {v u : Value} {l : List Int} (h : Sl w v [u]) (hu : Ints w u l) (hi : I64s l) : Recs 1 IntR w v [l] := recs_of_sl h rfl fun i x y hx hy => by
  match i with
  | 0 =>
    have e1 : u = x := by simpa using hx
    have e2 : l = y := by simpa using hy
    subst e1; subst e2
    exact ⟨hu, hi⟩
  | i + 1 => simp at hx
theorem recs_two2 {w : World} {v u u2 : Value} {l l2 : List Int} (h : Sl w v [u, u2]) (hu : Ints w u l) (hi : I64s l) (hu2 : Ints w u2 l2) (hi2 : I64s l2) : Recs 1 IntR w v [l, l2] := recs_of_sl h rfl fun i x y hx hy => by
  match i with
  | 0 =>
    have e1 : u = x := by simpa using hx
    have e2 : l = y := by simpa using hy
    subst e1; subst e2
    exact ⟨hu, hi⟩
  | 1 =>
    have e1 : u2 = x := by simpa using hx
    have e2 : l2 = y := by simpa using hy
    subst e1; subst e2
    exact ⟨hu2, hi2⟩
  | i + 2 => simp at hx

set_option maxRecDepth 100000 in
set_option maxHeartbeats 3200000 in
theorem Settled_any {H : Nat → Prop} {w : World} {q p : Nat} {dv : Value} {ds : List Int} {deep slot : Int} {K V : List BlkD} (h0 : ChC H w q p dv ds deep slot K V) {v : Value} {xs : List Int} (h1 : Ints w v xs) (hI0 : I64s xs) (hl0 : xs.length ≤ 42) :
    Calls Try.prog 14 #[.pointer (some ⟨q, 0, none⟩), v] w fun e w' => e = .returned (.int .i64 (settled K xs : Nat)) ∧ Ext w w' := by
  refine calls_keep ?_
  have hC := hide_ h0
  have hT := hide_ h0.tr
  have hd := hide_ h1
  have hI := hide_ hI0
  have hX := Ext.refl w
  clear h0 h1 hI0
  go_enter Try.func14, Try.ntmps14
  go_wp2_with ((first
    | (go_at_call 29; refine (CTree_any (hC.out.ext hX)).mono ?_; rintro e w1 ⟨rfl, hx⟩; replace hX := hX.trans hx; clear hx)
    | ((with_reducible refine at_bi ?_); refine i_len _ rfl rfl rfl (hd.out.ext hX) ?_)
    | fail) <;> (try simp only [Act.put, List.setIfInBounds_toArray, List.set_cons_zero, List.set_cons_succ]))
  go_loopw [12] (fun i wr => ∃ k : Nat, i = .int .i64 k ∧ k ≤ xs.length ∧ (∀ y ∈ xs.take k, knw K y = true) ∧ Ext w wr) (fun i _ => xs.length - (RowKit.intOf i).toNat)
  case atStart => exact ⟨0, rfl, Nat.zero_le _, (by simp), hX⟩
  case round =>
    clear hX
    obtain ⟨k, rfl, hk, hall0, hX⟩ := hrel
    by_cases hge : xs.length ≤ k
    · obtain rfl : k = xs.length := by omega
      have t2 : decide (xs.length < xs.length) = false := by simp
      rw [List.take_length] at hall0
      have hs := hide_ (show settled K xs = xs.length from stl_all hall0)
      clear hge hall0
      go_wp2_with ((first
        | ((with_reducible refine at_bi ?_); refine i_len _ rfl rfl rfl (hd.out.ext hX) ?_)
        | fail) <;> (try simp only [Act.put, List.setIfInBounds_toArray, List.set_cons_zero, List.set_cons_succ]))
      go_ret
      exact Keep.intro ⟨by rw [hs.out]; rfl, hX⟩
    have hlt : k < xs.length := by omega
    have t2 : decide (k < xs.length) = true := by simpa using hlt
    obtain ⟨x, hx0⟩ : ∃ x, xs[k] = x := ⟨_, rfl⟩
    have hlt' := hide_ hlt
    have hxx := hide_ (show xs[k]'(hlt'.out) = x from hx0)
    have hxI := hide_ (show I64 x from by have := hI.out x (hx0 ▸ List.getElem_mem hlt); exact ⟨this.1, this.2⟩)
    have hx1 : xs[k]? = some x := by rw [List.getElem?_eq_getElem hlt, hx0]
    have hall1 : knw K x = true → ∀ y ∈ xs.take (k + 1), knw K y = true := fun hkx y hy => by
      rw [List.take_add_one, hx1] at hy
      rcases List.mem_append.1 hy with hy | hy
      · exact hall0 y hy
      · have : y = x := by simpa using hy
        rw [this]; exact hkx
    have hall := hide_ hall0
    have hkb : k < 9223372036854775807 := by omega
    by_cases hz : x = 0
    · have tz : (x == 0) = true := by simpa using hz
      have tz' : (x != 0) = false := by simpa using hz
      have hal := hide_ (hall1 (by unfold knw; rw [decide_eq_true hz]; rfl))
      clear hge hlt hx0 hx1 hall1 hall0 hz
      go_wp2_with ((first
        | go_big_skip
        | ((with_reducible refine at_idx ?_); refine i_idx _ _ k rfl rfl rfl (hd.out.ext hX) rfl hlt'.out ?_; intro ad had; rw [hxx.out] at had)
        | fail) <;> (try simp only [Act.put, List.setIfInBounds_toArray, List.set_cons_zero, List.set_cons_succ]))
      go_roundw
      case rel => exact ⟨k + 1, by go_num, hlt'.out, hal.out, hX⟩
      case measure => have := hlt'.out; simp [RowKit.intOf]; omega
    have tz : (x == 0) = false := by simpa using hz
    have tz' : (x != 0) = true := by simpa using hz
    cases hh : TrS.has K x
    · have hhh := hide_ hh
      have hs := hide_ (show settled K xs = k from stl_at hx1 hall0 (by unfold knw; rw [decide_eq_false hz, hh]; rfl))
      clear hge hlt hx0 hx1 hall1 hall0 hz hh
      go_wp2_with ((first
        | go_big_skip
        | ((with_reducible refine at_idx ?_); refine i_idx _ _ k rfl rfl rfl (hd.out.ext hX) rfl hlt'.out ?_; intro ad had; rw [hxx.out] at had)
        | (go_at_call 30; refine (Has_any (hT.out.ext hX) hxI.out).mono ?_; rintro e w5 ⟨rfl, hx⟩; rw [hhh.out]; replace hX := hX.trans hx; clear hx)
        | fail) <;> (try simp only [Act.put, List.setIfInBounds_toArray, List.set_cons_zero, List.set_cons_succ]))
      go_ret
      exact Keep.intro ⟨by rw [hs.out]; rfl, hX⟩
    have hhh := hide_ hh
    have hal := hide_ (hall1 (by unfold knw; rw [hh, Bool.or_true]))
    clear hge hlt hx0 hx1 hall1 hall0 hz hh
    go_wp2_with ((first
      | go_big_skip
      | ((with_reducible refine at_idx ?_); refine i_idx _ _ k rfl rfl rfl (hd.out.ext hX) rfl hlt'.out ?_; intro ad had; rw [hxx.out] at had)
      | (go_at_call 30; refine (Has_any (hT.out.ext hX) hxI.out).mono ?_; rintro e w5 ⟨rfl, hx⟩; rw [hhh.out]; replace hX := hX.trans hx; clear hx)
      | fail) <;> (try simp only [Act.put, List.setIfInBounds_toArray, List.set_cons_zero, List.set_cons_succ]))
    go_roundw
    case rel => exact ⟨k + 1, by go_num, hlt'.out, hal.out, hX⟩
    case measure => have := hlt'.out; simp [RowKit.intOf]; omega

set_option maxRecDepth 100000 in
set_option maxHeartbeats 3200000 in
theorem Final_any {H : Nat → Prop} {w : World} {q p : Nat} {dv : Value} {ds : List Int} {deep slot : Int} {K V : List BlkD} (h0 : ChC H w q p dv ds deep slot K V) {v : Value} {xs : List Int} (h1 : Ints w v xs) (hI0 : I64s xs) (hl0 : xs.length ≤ 42) :
    Calls Try.prog 12 #[.pointer (some ⟨q, 0, none⟩), v] w fun e w' => ∃ v', e = .returned v' ∧ OwnI w.heap.size w' v' (finL K xs) ∧ Ext w w' := by
  refine calls_keep ?_
  have hC := hide_ h0
  have hraw := hide_ h0.raw
  have hri := hide_ h0.rights
  have hd := hide_ h1
  have hI := hide_ hI0
  have hl := hide_ hl0
  have hX := Ext.refl w
  obtain ⟨n, hn0⟩ : ∃ n, settled K xs = n := ⟨_, rfl⟩
  have hn := hide_ hn0
  have hnl := hide_ (show n ≤ xs.length from hn0 ▸ stl_le _ _)
  obtain ⟨S, hS0⟩ : ∃ S, cl (xs.take n) = S := ⟨_, rfl⟩
  have hS := hide_ hS0
  have hSI := hide_ (show I64s S from hS0 ▸ i64s_cl (i64s_take hI0 n))
  have hSl := hide_ (show S.length ≤ 42 from by have h1 := cl_len (xs.take n); rw [hS0, List.length_take] at h1; omega)
  have hfin := hide_ (show finL K xs = cl ((S.map (ids K)).flatten) from by unfold finL; rw [hn0, ← cl_flat, hS0, List.flatMap_def])
  have hfl := hide_ (show ((S.map (ids K)).flatten).length ≤ 600000 from by
    have h2 := flat_len3 h0.rights S
    rw [← List.flatMap_def]
    have h3 : S.length * 12288 ≤ 42 * 12288 := Nat.mul_le_mul_right _ hSl.out
    omega)
  have htl := hide_ (show ([xs.take n].flatten).length ≤ 600000 from by simp; omega)
  have htI := hide_ (i64s_take hI0 n)
  rw [hfin.out]
  clear h0 h1 hI0 hl0 hn0 hS0 hfin
  go_enter Try.func12, Try.ntmps12
  go_wp2_with ((first
    | (go_at_call 14; refine (Settled_any (hC.out.ext hX) (hd.out.ext hX) hI.out hl.out).mono ?_; rintro e w1 ⟨rfl, hx⟩; rw [hn.out]; replace hX := hX.trans hx; clear hx)
    | ((with_reducible refine at_cut ?_); refine w_ito _ _ n rfl rfl rfl (hd.out.ext hX) rfl rfl hnl.out ?_; intro v13 h13)
    | ((with_reducible refine at_lit ?_); refine w_new Try.elLL [v13] rfl rfl rfl (one1 (oneCell_cells (Sl.one' h13))) rfl (by omega) ?_; intro v15 w2 hx o15; have hR := recs_one1 (Sl.of_own o15) (Sl.ext h13 hx) htI.out; replace hX := hX.trans hx; clear hx o15 h13)
    | (go_at_call 11; refine (Clean_any hR htl.out).mono ?_; rintro e W1 ⟨v16, rfl, o16, hx⟩; rw [show [xs.take n].flatten = xs.take n from by simp, hS.out] at o16; have h16 := hide_ o16.ints; replace hX := hX.trans hx; have hX1 := hide_ hX; clear hx o16 hR)
    | ((with_reducible refine at_bi ?_); refine i_len _ rfl rfl rfl h16.out ?_)
    | fail) <;> (try simp only [Act.put, List.setIfInBounds_toArray, List.set_cons_zero, List.set_cons_succ]))
  go_loopw [6, 18] (fun u6 i wr => ∃ (k : Nat) (F : Nat → Prop), i = .int .i64 k ∧ k ≤ S.length ∧ LS W1.heap.size F wr u6 ((S.take k).map (ids K)) ∧ Ext W1 wr) (fun _ i _ => S.length - (RowKit.intOf i).toNat)
  case atStart => exact ⟨0, _, rfl, Nat.zero_le _, LS.nil _ _, Ext.refl _⟩
  case round =>
    clear hX
    obtain ⟨k, F, rfl, hk, hL, hX⟩ := hrel
    by_cases hge : S.length ≤ k
    · obtain rfl : k = S.length := by omega
      have t2 : decide (S.length < S.length) = false := by simp
      rw [List.take_length] at hL
      clear hge
      go_wp2_with (first
        | (go_at_call 11; refine (Clean_any hL.recs hfl.out).mono ?_; rintro e w9 ⟨v30, rfl, o30, hx⟩; have hs := hide_ hX.size; replace hX := hX.trans hx; clear hx)
        | fail)
      go_ret
      exact Keep.intro ⟨_, rfl, o30.mono (Nat.le_trans hX1.out.size hs.out), hX1.out.trans hX⟩
    have hlt : k < S.length := by omega
    have t2 : decide (k < S.length) = true := by simpa using hlt
    obtain ⟨x, hx0⟩ : ∃ x, S[k] = x := ⟨_, rfl⟩
    have hlt' := hide_ hlt
    have hxx := hide_ (show S[k]'(hlt'.out) = x from hx0)
    have hxI := hide_ (show I64 x from by have := hSI.out x (hx0 ▸ List.getElem_mem hlt); exact ⟨this.1, this.2⟩)
    have hst := hide_ (show (S.take (k + 1)).map (ids K) = (S.take k).map (ids K) ++ [ids K x] from by rw [List.take_add_one, List.getElem?_eq_getElem hlt, hx0]; simp)
    have hkb : k ≤ 42 := by have := hSl.out; omega
    have hk' := hide_ (show ((S.take k).map (ids K)).length ≤ 42 from by rw [List.length_map, List.length_take]; omega)
    clear hge hlt hx0
    go_wp2_with ((first
      | ((with_reducible refine at_idx ?_); refine i_idx _ _ k rfl rfl rfl (h16.out.ext hX) rfl hlt'.out ?_; intro ad had; rw [hxx.out] at had)
      | (go_at_call 23; refine (CTxs_any (hC.out.ext (hX1.out.trans hX)) hxI.out).mono ?_; rintro e w5 ⟨v25, rfl, o25, hx⟩; have hs := hide_ (show Safe F w5 v25 (i64s (ids K x)) from o25.safe fun j hj => (hL.hF j hj).2); have hone := hide_ (Sl.one' o25.ints); replace hL := hL.ext hx; replace hX := hX.trans hx; clear hx o25)
      | ((with_reducible refine at_lit ?_); refine w_new Try.elLL [v25] rfl rfl rfl (one1 (oneCell_cells hone.out)) rfl (by omega) ?_; intro v26 w6 hx o26; have h26 := Sl.of_own o26; replace hL := hL.ext hx; replace hs := hide_ (hs.out.ext hx); replace hX := hX.trans hx; clear hx o26)
      | ((with_reducible refine at_bi ?_); obtain ⟨us, hRow, hul, hus⟩ := hL.ex; refine w_rapp Try.elLL _ _ rfl rfl rfl rfl hRow h26 (by intro y hy; rw [List.mem_singleton] at hy; subst hy; exact hone.out) (by rw [hul]; have := hk'.out; simp; omega) ?_; intro v27 w7 hm7 hr7 _; have hL7 := LS.app hul hus hL.hF hX.size hm7 hr7 hs.out (ids_i64 hraw.out x); replace hX := hm7.after hX (fun j hj => (hL.hF j hj).1); clear hRow hul hus hL hm7 hr7 h26 hs)
      | fail) <;> (try simp only [Act.put, List.setIfInBounds_toArray, List.set_cons_zero, List.set_cons_succ]))
    go_roundw
    case rel => exact ⟨k + 1, _, by go_num, hlt'.out, by rw [hst.out]; exact hL7, hX⟩
    case measure => have := hlt'.out; simp [RowKit.intOf]; omega

set_option maxRecDepth 100000 in
set_option maxHeartbeats 3200000 in
theorem Avail_any {H : Nat → Prop} {w : World} {q p : Nat} {dv : Value} {ds : List Int} {deep slot : Int} {K V : List BlkD} (h0 : ChC H w q p dv ds deep slot K V) {v : Value} {xs : List Int} (h1 : Ints w v xs) (hI0 : I64s xs) (hl0 : xs.length ≤ 42) :
    Calls Try.prog 13 #[.pointer (some ⟨q, 0, none⟩), v] w fun e w' => ∃ v', e = .returned v' ∧ OwnI w.heap.size w' v' (avL K xs (backN (TrS.path K (TrS.tip K)) deep)) ∧ Ext w w' := by
  refine calls_keep ?_
  have hC := hide_ h0
  have hraw := hide_ h0.raw
  have hd := hide_ h1
  have hI := hide_ hI0
  have hl := hide_ hl0
  have hX := Ext.refl w
  obtain ⟨c, hc0⟩ : ∃ c, backN (TrS.path K (TrS.tip K)) deep = c := ⟨_, rfl⟩
  have hcI := hide_ (show I64 c from hc0 ▸ back_i64 h0.uq h0.tr.fit.stood _ _)
  have hc := hide_ hc0
  obtain ⟨A, hA0⟩ : ∃ A, finL K xs = A := ⟨_, rfl⟩
  have hA := hide_ hA0
  have hAI := hide_ (show I64s A from by
    intro x hx
    rw [← hA0] at hx
    unfold finL at hx
    obtain ⟨m, _, hm⟩ := List.mem_flatMap.1 (mem_cl.1 hx)
    exact ids_i64 h0.raw m x hm)
  have hl2 := hide_ (show ([A, ids K c].flatten).length ≤ 600000 from by
    have h2 := finL_len h0.rights xs
    have h3 := ids_len h0.rights c
    rw [hA0] at h2
    have h4 : xs.length * 12288 ≤ 42 * 12288 := Nat.mul_le_mul_right _ hl0
    simp; omega)
  have hav := hide_ (show avL K xs c = cl [A, ids K c].flatten from by unfold avL; rw [hA0]; simp)
  rw [hc0, hav.out]
  clear h0 h1 hI0 hl0 hc0 hA0 hav
  go_enter Try.func13, Try.ntmps13
  go_wp2_with ((first
    | (go_at_call 12; refine (Final_any (hC.out.ext hX) (hd.out.ext hX) hI.out hl.out).mono ?_; rintro e w1 ⟨v7, rfl, o7, hx⟩; rw [hA.out] at o7; replace o7 := o7.ints; replace hX := hX.trans hx; clear hx)
    | (go_at_call 24; refine (CConf_any (hC.out.ext hX)).mono ?_; rintro e w2 ⟨rfl, hx⟩; rw [hc.out]; replace o7 := o7.ext hx; replace hX := hX.trans hx; clear hx)
    | (go_at_call 23; refine (CTxs_any (hC.out.ext hX) hcI.out).mono ?_; rintro e w3 ⟨v11, rfl, o11, hx⟩; replace o11 := o11.ints; replace o7 := o7.ext hx; replace hX := hX.trans hx; clear hx)
    | ((with_reducible refine at_lit ?_); refine w_new Try.elLL [v7, v11] rfl rfl rfl (one2 (oneCell_cells (Sl.one' o7)) (oneCell_cells (Sl.one' o11))) rfl (by omega) ?_; intro v12 w4 hx o12; have hR := recs_two2 (Sl.of_own o12) (Sl.ext o7 hx) hAI.out (Sl.ext o11 hx) (ids_i64 hraw.out c); replace hX := hX.trans hx; have hs := hide_ hX.size; clear hx o12 o7 o11)
    | (go_at_call 11; refine (Clean_any hR hl2.out).mono ?_; rintro e w5 ⟨v13, rfl, o13, hx⟩; replace hX := hX.trans hx; clear hx hR)
    | fail) <;> (try simp only [Act.put, List.setIfInBounds_toArray, List.set_cons_zero, List.set_cons_succ]))
  go_ret
  exact Keep.intro ⟨_, rfl, o13.mono hs.out, hX⟩
end Go.Proofs.Ytdoeoncmhaihbaa
