/- The document's ledger: what is final; what is available. -/
import Derived.Test.YtdoeoncmhaihbaaLgR
namespace Go.Proofs.Ytdoeoncmhaihbaa
set_option maxRecDepth 100000
open Go.RowKit

theorem LS.made {lo : Nat} {w : World} {v : Value} (h : w.ownsRow lo 25 1 v 0 []) : LS lo (fun k => lo ≤ k ∧ k < w.heap.size) w v [] := ⟨⟨[], Row.of h (fun k h1 h2 => ⟨h1, h2⟩), rfl, fun i u l h => by simp at h⟩, fun k hk => hk⟩

set_option maxRecDepth 100000 in
set_option maxHeartbeats 3200000 in
theorem refFinal_any {w : World} {vk vw dv : Value} {deep slot : Int} {K : List BlkD} (hU0 : TrS.Uq K) (hraw0 : ∀ b ∈ K, b.Raw) (hK0 : Recs 5 BlkR w vk K) {v : Value} {xs : List Int} (h1 : Ints w v xs) (hl0 : xs.length ≤ 42) :
    Calls Try.prog 20 #[.agg (cRow vk vw dv deep slot).toArray, v] w fun e w' => ∃ v', e = .returned v' ∧ OwnI w.heap.size w' v' (finL K xs) ∧ Ext w w' := by
  refine calls_keep ?_
  have hK := hide_ hK0
  have hU := hide_ hU0
  have hraw := hide_ hraw0
  have hd := hide_ h1
  have hl := hide_ hl0
  have hX := Ext.refl w
  obtain ⟨n, hn0⟩ : ∃ n, settled K xs = n := ⟨_, rfl⟩
  have hn := hide_ hn0
  have hnl := hide_ (show n ≤ xs.length from hn0 ▸ stl_le _ _)
  have hfin := hide_ (show finL K xs = cl (((xs.take n).map (ids K)).flatten) from by unfold finL; rw [hn0, List.flatMap_def])
  have hfl := hide_ (show (((xs.take n).map (ids K)).flatten).length ≤ 600000 from by
    have h2 := flat_len3 hU0.right (xs.take n)
    rw [← List.flatMap_def]
    have h3 : (xs.take n).length * 12288 ≤ 42 * 12288 := Nat.mul_le_mul_right _ (by rw [List.length_take]; omega)
    omega)
  rw [hfin.out]
  clear h1 hl0 hn0 hfin hU0 hraw0 hK0
  go_enter Try.func20, Try.ntmps20
  go_wp2_with ((first
    | ((with_reducible refine at_box ?_); refine w_box _ (cRow vk vw dv deep slot) rfl rfl rfl rfl ?_; intro g2 w2 hg2 hx f20; have f2 := hide_ f20; replace hX := hX.trans hx; clear hx f20)
    | ((with_reducible refine at_lit ?_); refine w_new Try.elLL [] rfl rfl rfl (by simp) rfl (by omega) ?_; intro v7 w3 hx o7; have hL : LS w2.heap.size _ w3 v7 [] := LS.made o7; have hX0 := hide_ hX; replace hX := hx; clear hx o7)
    | fail) <;> (try simp only [Act.put, List.setIfInBounds_toArray, List.set_cons_zero, List.set_cons_succ]))
  go_loopw [5, 6] (fun u5 i wr => ∃ (k : Nat) (F : Nat → Prop), i = .int .i64 k ∧ k ≤ n ∧ LS w2.heap.size F wr u5 ((xs.take k).map (ids K)) ∧ Ext w2 wr) (fun _ i _ => n - (RowKit.intOf i).toNat)
  case atStart => exact ⟨0, _, rfl, Nat.zero_le _, hL, hX⟩
  case round =>
    clear hX hL
    obtain ⟨k, F, rfl, hk, hL, hX⟩ := hrel
    obtain ⟨vL, hvL⟩ : ∃ va, va = u5 := ⟨_, rfl⟩
    rw [← hvL] at hL
    subst hvL
    by_cases hge : n ≤ k
    · obtain rfl : k = n := by omega
      have t2 : decide (k < k) = false := by simp
      clear hge hk
      go_wp2_with ((first
        | ((with_reducible refine at_load ?_); refine w_loadN Try.stDocC (.tmp 2) (cRow vk vw dv deep slot) rfl rfl rfl (f2.out.ext hX) rfl self_at ?_)
        | (go_at_call 19; refine (refSettled_any (hK.out.ext BlkR.stays (hX0.out.trans hX)) (hd.out.ext (hX0.out.trans hX)) hl.out).mono ?_; rintro e w5 ⟨rfl, hx⟩; rw [hn.out]; replace hL := hL.ext hx; replace hX := hX.trans hx; clear hx)
        | (go_at_call 16; refine (refLClean_any hL.recs hfl.out).mono ?_; rintro e w9 ⟨v30, rfl, o30, hx⟩; have hs := hide_ hX.size; replace hX := hX.trans hx; clear hx)
        | fail) <;> (try simp only [Act.put, List.setIfInBounds_toArray, List.set_cons_zero, List.set_cons_succ]))
      go_ret
      exact Keep.intro ⟨_, rfl, o30.mono (Nat.le_trans hX0.out.size hs.out), hX0.out.trans hX⟩
    have hlt : k < n := by omega
    have t2 : decide (k < n) = true := by simpa using hlt
    have hkx : k < xs.length := by have := hnl.out; omega
    obtain ⟨x, hx0⟩ : ∃ x, xs[k] = x := ⟨_, rfl⟩
    have hlt' := hide_ hlt
    have hxx := hide_ (show ∃ h : k < xs.length, xs[k] = x from ⟨hkx, hx0⟩)
    have hst := hide_ (show (xs.take (k + 1)).map (ids K) = (xs.take k).map (ids K) ++ [ids K x] from by rw [List.take_add_one, List.getElem?_eq_getElem hkx, hx0]; simp)
    have hkb : k ≤ 42 := by have := hl.out; omega
    have hk' := hide_ (show ((xs.take k).map (ids K)).length ≤ 42 from by rw [List.length_map, List.length_take]; omega)
    clear hge hlt hx0 hkx
    go_wp2_with ((first
      | ((with_reducible refine at_load ?_); refine w_loadN Try.stDocC (.tmp 2) (cRow vk vw dv deep slot) rfl rfl rfl (f2.out.ext hX) rfl self_at ?_)
      | (go_at_call 19; refine (refSettled_any (hK.out.ext BlkR.stays (hX0.out.trans hX)) (hd.out.ext (hX0.out.trans hX)) hl.out).mono ?_; rintro e w5 ⟨rfl, hx⟩; rw [hn.out]; replace hL := hL.ext hx; replace hX := hX.trans hx; clear hx)
      | fail) <;> (try simp only [Act.put, List.setIfInBounds_toArray, List.set_cons_zero, List.set_cons_succ]))
    have hTx := hide_ (fun w' (h : Ext w2 w') => refCTxs_any (vk := vk) (vw := vw) (dv := dv) (deep := deep) (slot := slot) (n := x) hU.out (hK.out.ext BlkR.stays (hX0.out.trans h)))
    refine wp_region_phx (by kernel_rfl) ?_; intro wd hxd; have F2 := f2.out.ext (hX.trans hxd); have J1 := hd.out.ext (hX0.out.trans (hX.trans hxd)); have hL1 := hL.ext hxd
    refine Ph.gate 0 8 (by kernel_rfl) ?_
    refine LinL.step (s := (.val (vL))) [(5, none)] rfl (by kernel_rfl) (op_out 5 (vL) rfl (.inl rfl) rfl) ?_
    refine LinL.step (s := (.val (.agg #[vk, vw, dv, .int .i64 deep, .int .i64 slot]))) [(2, none)] rfl (by kernel_rfl) (op_runs rfl fun σ w' hx hg => ⟨_, runs_loadN (ρ := σ.eval) (w := w') Try.stDocC (.tmp 2) (us := cRow vk vw dv deep slot) rfl hg.1 (F2.ext hx) rfl self_at, rfl⟩) ?_
    refine LinL.step (s := (.val (v))) [(1, none)] rfl (by kernel_rfl) (op_out 1 (v) rfl (.inl rfl) rfl) ?_
    refine LinL.step (s := (.val (.int .i64 (k : Nat)))) [(6, none)] rfl (by kernel_rfl) (op_out 6 (.int .i64 (k : Nat)) rfl (.inl rfl) rfl) ?_
    refine LinL.step (s := (Sp.ptr (.int .i64 (x)))) [(17, some 1), (18, some 0)] rfl (by kernel_rfl) (op_runs rfl fun σ w' hx hg => rptri (ρ := σ.eval) (w := w') (.tmp 17) (.tmp 18) rfl hg.1 (J1.ext hx) k hg.2.1 hxx.out.choose hxx.out.choose_spec) ?_
    refine LinL.step (s := (.val (.int .i64 (x : Int)))) [(19, some 0)] rfl (by kernel_rfl) (op_runs rfl fun σ w' hx hg => ⟨_, runs_load (ρ := σ.eval) (w := w') (.tmp 19) rfl Try.underlying3 rfl hg.1, rfl⟩) ?_
    refine LinL.step (s := (Sp.oi w5.heap.size (ids K x))) [(16, some 4), (20, some 0)] rfl (by kernel_rfl) (op_calls 35 #[(.tmp 16), (.tmp 20)] #[38, 3] (fun σ => #[.agg #[vk, vw, dv, .int .i64 deep, .int .i64 slot], .int .i64 (x : Int)]) rfl rfl (fun _ _ => rfl) fun σ w' hx hg => ⟨by have h16 : σ.tmps.getD 16 undef = .agg #[vk, vw, dv, .int .i64 deep, .int .i64 slot] := hg.1; have h20 : σ.tmps.getD 20 undef = .int .i64 (x : Int) := hg.2.1; simp only [List.map_toArray, List.map_cons, List.map_nil, Act.eval, h16, h20], retO (hxd.trans hx).size (hTx.out w' (hX.trans (hxd.trans hx)))⟩) ?_
    refine LinL.step (s := (Sp.li1 w5.heap.size (ids K x))) [(21, some 0)] rfl (by kernel_rfl) (op_li1 21 rfl rfl fun σ w' hx hg => hg.1) ?_
    intro wN hxN
    simp only [Fin', Sp.ptr, Sp.li1, Sp.oi, List.reverse_cons, List.reverse_nil, List.nil_append, List.cons_append, List.drop_zero, List.take_succ_cons, List.take_zero]
    intro q19 hq19 q21 hq21 q22 hq22
    simp only [Act.put, List.setIfInBounds_toArray, List.set_cons_zero, List.set_cons_succ]
    refine wpOp_of_list rfl ?_
    obtain ⟨us, hRow, hul, hus⟩ := (hL1.ext hxN).ex
    obtain ⟨ue, h22, o21⟩ := hq22
    refine w_rapp Try.elLL _ _ rfl rfl rfl rfl hRow h22 (by intro y hy; rw [List.mem_singleton] at hy; subst hy; exact Sl.one' o21.ints) (by rw [hul]; have := hk'.out; simp; omega) ?_
    intro v27 w7 hm7 hr7 _
    have hF := (hL1.ext hxN).hF
    have hL7 := LS.app hul hus hF (Nat.le_trans hX.size (hxd.trans hxN).size) hm7 hr7 (o21.safe fun j hj => (hL.hF j hj).2) (ids_i64 hraw.out x)
    have hX7 := hm7.after (hX.trans (hxd.trans hxN)) (fun j hj => (hF j hj).1)
    simp only [Act.put, List.setIfInBounds_toArray]
    show Ph Try.prog _ _ 9 _ _
    refine Ph.rest 9 1 (by kernel_rfl) ?_
    refine LinL.step (s := (.val (v27))) [(23, none)] rfl (by kernel_rfl) (op_out 23 (v27) rfl (.inr rfl) rfl) ?_
    intro wN hxN
    simp only [Fin', List.reverse_cons, List.reverse_nil, List.nil_append, List.drop_zero, List.drop_succ_cons, List.take_succ_cons, List.take_zero]
    simp only [Act.put]
    have hL8 := hL7.ext hxN
    have hX8 := hX7.trans hxN
    clear hL1 hL hX hq19 hxd hm7 hr7 hL7 hX7 hRow hul hus h22 o21 hF J1 hTx
    go_wp2
    go_roundw
    case rel => exact ⟨k + 1, _, by go_num, hlt'.out, by rw [hst.out]; exact hL8, hX8⟩
    case measure => have := hlt'.out; simp [RowKit.intOf]; omega

set_option maxRecDepth 100000 in
set_option maxHeartbeats 3200000 in
theorem refAvail_any {w : World} {vk vw dv : Value} {deep slot : Int} {K : List BlkD} (hU0 : TrS.Uq K) (hlen0 : K.length ≤ 400) (hraw0 : ∀ b ∈ K, b.Raw) (hK0 : Recs 5 BlkR w vk K) {v : Value} {xs : List Int} (h1 : Ints w v xs) (hl0 : xs.length ≤ 42) :
    Calls Try.prog 21 #[.agg (cRow vk vw dv deep slot).toArray, v] w fun e w' => ∃ v', e = .returned v' ∧ OwnI w.heap.size w' v' (avL K xs (backN (TrS.path K (TrS.tip K)) deep)) ∧ Ext w w' := by
  refine calls_keep ?_
  have hraw := hide_ hraw0
  have hd := hide_ h1
  have hX := Ext.refl w
  obtain ⟨c, hc0⟩ : ∃ c, backN (TrS.path K (TrS.tip K)) deep = c := ⟨_, rfl⟩
  obtain ⟨A, hA0⟩ : ∃ A, finL K xs = A := ⟨_, rfl⟩
  have hAI := hide_ (show I64s A from by
    intro x hx
    rw [← hA0] at hx
    unfold finL at hx
    obtain ⟨m, _, hm⟩ := List.mem_flatMap.1 (mem_cl.1 hx)
    exact ids_i64 hraw0 m x hm)
  have hl2 := hide_ (show ([A, ids K c].flatten).length ≤ 600000 from by
    have h2 := finL_len hU0.right xs
    have h3 := ids_len hU0.right c
    rw [hA0] at h2
    have h4 : xs.length * 12288 ≤ 42 * 12288 := Nat.mul_le_mul_right _ hl0
    simp; omega)
  have hav := hide_ (show avL K xs c = cl [A, ids K c].flatten from by unfold avL; rw [hA0]; simp)
  have hFi := hide_ (fun w' (h : Ext w w') => hA0 ▸ refFinal_any (vk := vk) (vw := vw) (dv := dv) (deep := deep) (slot := slot) hU0 hraw0 (hK0.ext BlkR.stays h) (Sl.ext h1 h) hl0)
  have hCf := hide_ (fun w' (h : Ext w w') => hc0 ▸ refCConf_any (vk := vk) (vw := vw) (dv := dv) (deep := deep) (slot := slot) hU0 (hK0.ext BlkR.stays h) hlen0)
  have hTx := hide_ (fun w' (h : Ext w w') => refCTxs_any (vk := vk) (vw := vw) (dv := dv) (deep := deep) (slot := slot) (n := c) hU0 (hK0.ext BlkR.stays h))
  rw [hc0, hav.out]
  clear h1 hl0 hc0 hav hU0 hraw0 hK0 hA0
  go_enter Try.func21, Try.ntmps21
  go_wp2_with ((first
    | ((with_reducible refine at_box ?_); refine w_box _ (cRow vk vw dv deep slot) rfl rfl rfl rfl ?_; intro g2 w2 hg2 hx f20; have f2 := hide_ f20; replace hX := hX.trans hx; clear hx f20)
    | fail) <;> (try simp only [Act.put, List.setIfInBounds_toArray, List.set_cons_zero, List.set_cons_succ]))
  refine wp_region_phx (by kernel_rfl) ?_; intro wd hxd; have F2 := f2.out.ext hxd; have J1 := hd.out.ext (hX.trans hxd)
  refine Ph.rest 0 10 (by kernel_rfl) ?_
  refine LinL.step (s := (.val (.agg #[vk, vw, dv, .int .i64 deep, .int .i64 slot]))) [(2, none)] rfl (by kernel_rfl) (op_runs rfl fun σ w' hx hg => ⟨_, runs_loadN (ρ := σ.eval) (w := w') Try.stDocC (.tmp 2) (us := cRow vk vw dv deep slot) rfl hg.1 (F2.ext hx) rfl self_at, rfl⟩) ?_
  refine LinL.step (s := (.val (v))) [(1, none)] rfl (by kernel_rfl) (op_out 1 (v) rfl (.inl rfl) rfl) ?_
  refine LinL.step (s := (Sp.oi w.heap.size A)) [(5, some 1), (6, some 0)] rfl (by kernel_rfl) (op_calls 20 #[(.tmp 5), (.tmp 6)] #[38, 25] (fun σ => #[.agg #[vk, vw, dv, .int .i64 deep, .int .i64 slot], v]) rfl rfl (fun _ _ => rfl) fun σ w' hx hg => ⟨by have h5 : σ.tmps.getD 5 undef = .agg #[vk, vw, dv, .int .i64 deep, .int .i64 slot] := hg.1; have h6 : σ.tmps.getD 6 undef = v := hg.2.1; simp only [List.map_toArray, List.map_cons, List.map_nil, Act.eval, h5, h6], retO (hX.trans (hxd.trans hx)).size (hFi.out w' (hX.trans (hxd.trans hx)))⟩) ?_
  refine LinL.step (s := (.val (.agg #[vk, vw, dv, .int .i64 deep, .int .i64 slot]))) [(2, none)] rfl (by kernel_rfl) (op_runs rfl fun σ w' hx hg => ⟨_, runs_loadN (ρ := σ.eval) (w := w') Try.stDocC (.tmp 2) (us := cRow vk vw dv deep slot) rfl hg.1 (F2.ext hx) rfl self_at, rfl⟩) ?_
  refine LinL.step (s := (.val (.agg #[vk, vw, dv, .int .i64 deep, .int .i64 slot]))) [(2, none)] rfl (by kernel_rfl) (op_runs rfl fun σ w' hx hg => ⟨_, runs_loadN (ρ := σ.eval) (w := w') Try.stDocC (.tmp 2) (us := cRow vk vw dv deep slot) rfl hg.1 (F2.ext hx) rfl self_at, rfl⟩) ?_
  refine LinL.step (s := (.val (.int .i64 c))) [(9, some 0)] rfl (by kernel_rfl) (op_calls 36 #[(.tmp 9)] #[38] (fun σ => #[.agg #[vk, vw, dv, .int .i64 deep, .int .i64 slot]]) rfl rfl (fun _ _ => rfl) fun σ w' hx hg => ⟨by have h9 : σ.tmps.getD 9 undef = .agg #[vk, vw, dv, .int .i64 deep, .int .i64 slot] := hg.1; simp only [List.map_toArray, List.map_cons, List.map_nil, Act.eval, h9], retH (hCf.out w' (hX.trans (hxd.trans hx)))⟩) ?_
  refine LinL.step (s := (Sp.oi w.heap.size (ids K c))) [(8, some 2), (10, some 0)] rfl (by kernel_rfl) (op_calls 35 #[(.tmp 8), (.tmp 10)] #[38, 3] (fun σ => #[.agg #[vk, vw, dv, .int .i64 deep, .int .i64 slot], .int .i64 c]) rfl rfl (fun _ _ => rfl) fun σ w' hx hg => ⟨by have h8 : σ.tmps.getD 8 undef = .agg #[vk, vw, dv, .int .i64 deep, .int .i64 slot] := hg.1; have h10 : σ.tmps.getD 10 undef = .int .i64 c := hg.2.1; simp only [List.map_toArray, List.map_cons, List.map_nil, Act.eval, h8, h10], retO (hX.trans (hxd.trans hx)).size (hTx.out w' (hX.trans (hxd.trans hx)))⟩) ?_
  refine LinL.step (s := (Sp.li2 w.heap.size A (ids K c))) [(7, some 4), (11, some 0)] rfl (by kernel_rfl) (op_li2 7 11 rfl rfl (fun σ w' hx hg => hg.1) fun σ w' hx hg => hg.2.1) ?_
  refine LinL.step (s := (Sp.oi w.heap.size (cl [A, ids K c].flatten))) [(12, some 0)] rfl (by kernel_rfl) (op_calls 16 #[(.tmp 12)] #[29] (fun σ => #[σ.tmps.getD 12 undef]) rfl rfl (fun _ _ => rfl) fun σ w' hx hg => ⟨by skip; simp only [List.map_toArray, List.map_cons, List.map_nil, Act.eval], retO (hX.trans (hxd.trans hx)).size (refLClean_any (recs_li2 hg.1 hAI.out (ids_i64 hraw.out c)) hl2.out)⟩) ?_
  refine LinL.step (s := (Sp.oi w.heap.size (cl [A, ids K c].flatten))) [(13, some 0)] rfl (by kernel_rfl) (op_copy 13 0 (Sp.oi w.heap.size (cl [A, ids K c].flatten)) rfl (.inr rfl) rfl) ?_
  intro wN hxN
  simp only [Fin', Sp.li2, Sp.oi, List.reverse_cons, List.reverse_nil, List.nil_append, List.cons_append, List.drop_zero, List.take_succ_cons, List.take_zero]
  intro q7 hq7 q11 hq11 q12 hq12 q13 hq13 q4 hq4
  simp only [Act.put, List.setIfInBounds_toArray, List.set_cons_zero, List.set_cons_succ]
  have hX9 := hX.trans (hxd.trans hxN)
  go_wp2
  go_ret
  exact Keep.intro ⟨_, rfl, hq4, hX9⟩
end Go.Proofs.Ytdoeoncmhaihbaa
