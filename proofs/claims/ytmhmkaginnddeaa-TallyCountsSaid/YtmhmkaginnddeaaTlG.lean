/- The view in which, or behind which, enough have voted: the method. -/
import Derived.Test.YtmhmkaginnddeaaTlG0
namespace Go.Proofs.Ytmhmkaginnddeaa
set_option maxRecDepth 100000
open Go.RowKit

set_option maxRecDepth 100000 in
set_option maxHeartbeats 6400000 in
theorem TAhead_any {X : Nat → Prop} {w : World} {p : Nat} {t : List Int} {T : Tab} {N : Nat} {view : Int} (h0 : Tal X w p t T N) (hXw : ∀ k, X k → k < w.heap.size) (hN : N ≤ 400) {r : Int} (hr0 : T.aheadOf t view = r) :
    Calls Try.prog 13 #[.pointer (some ⟨p, 0, none⟩), .int .i64 view] w fun e w' => e = .returned (.int .i64 r) ∧ Ext w w' := by
  refine calls_fr (r := none) (n := 0) ?_
  refine callsIn_of_wp_marks Try.func13 rfl trivial ?_ rfl
  simp only [Try.ntmps13, List.size_toArray, List.length_cons, List.length_nil, Nat.reduceAdd, Nat.reduceSub, Array.replicate_succ, Array.replicate_zero, List.push_toArray, List.append_toArray, List.nil_append, List.cons_append]
  have hT := hide_ h0
  have hok := hide_ h0.st
  have htab := hide_ h0.ok
  have hr := hide_ hr0
  have hXw' := hide_ hXw
  obtain ⟨sv, g, D, m, hTw0⟩ := h0
  have hTw := hide_ hTw0
  have hX := Ext.refl w
  clear hTw0 hr0 hXw
  gi_wp2_with (refine listIn (by kernel_rfl) ?_; go_wp2_with ((first
    | ((with_reducible refine at_box ?_); refine w_box _ [.pointer (some ⟨p, 0, none⟩)] rfl rfl rfl rfl ?_; intro b2 w1 hb2 hx f2; replace hX := hX.trans hx; clear hx)
    | ((with_reducible refine at_alloc ?_); refine w_alloc1 (t := 3) (z := .int .i64 0) (by kernel_rfl) rfl rfl rfl ?_; intro br w2 hbr0 hx fr; have hbr := hide_ (Nat.le_trans hX.size hbr0); have n2r := hide_ (show b2 ≠ br from by have := f2.lt; omega); replace f2 := f2.ext hx; replace hX := hX.trans hx; clear hx)
    | ((with_reducible refine at_mkm ?_); refine w_mkmap rfl rfl ?_; intro gm w3 hgm0 hx om; have hgm := hide_ (Nat.le_trans hX.size hgm0); have ngm := hide_ (show b2 ≠ gm ∧ br ≠ gm from by have := f2.lt; have := fr.lt; exact ⟨by omega, by omega⟩); replace f2 := f2.ext hx; replace fr := fr.ext hx; replace hX := hX.trans hx; clear hx)
    | ((with_reducible refine at_alloc ?_); refine w_alloc1 (t := 57) (z := .map none) (by kernel_rfl) rfl rfl rfl ?_; intro b5 w4 hb50 hx f5; have hb5 := hide_ (Nat.le_trans hX.size hb50); have n5 := hide_ (show b2 ≠ b5 ∧ br ≠ b5 ∧ gm ≠ b5 from by have := f2.lt; have := fr.lt; have := om.lt; exact ⟨by omega, by omega, by omega⟩); replace f2 := f2.ext hx; replace fr := fr.ext hx; replace om := ownsMap_ext om hx; replace hX := hX.trans hx; clear hx)
    | ((with_reducible refine at_store ?_); refine w_fstore _ _ rfl rfl rfl rfl rfl f5 (by simp) rfl rfl (by kernel_rfl) ?_; intro w5 hm5 f5'; replace f5 : Fs w5 b5 [.map (some gm)] := f5'; replace f2 := f2.mod hm5 n5.out.1; replace fr := fr.mod hm5 n5.out.2.1; replace om := ownsMap_mod om hm5 n5.out.2.2; replace hX := hm5.after hX (by intro j hj; have e : j = b5 := hj; rw [e]; exact hb5.out); clear hm5 f5')
    | ((with_reducible refine at_load ?_); refine w_fload _ rfl rfl rfl f2 rfl (agg_of (by kernel_rfl)) ?_)
    | (go_at_call 32; refine (viewsAbove_any p view _).mono ?_; rintro e w6 ⟨b3, b4, rfl, f3, f4, hb3, hb4, hx⟩; have n4 := hide_ (show b4 ≠ gm ∧ b4 ≠ br from by have := om.lt; have := fr.lt; exact ⟨by omega, by omega⟩); replace f2 := f2.ext hx; replace fr := fr.ext hx; replace f5 := f5.ext hx; replace om := ownsMap_ext om hx; replace hX := hX.trans hx; clear hx hb3 hb4)
    | (refine noOut_n ?_)
    | fail) <;> (try simp only [Act.put, List.setIfInBounds_toArray, List.set_cons_zero, List.set_cons_succ])))
  clear hbr0 hgm0 hb50 hb2
  have f20 := hide_ f2
  have f50 := hide_ f5
  have hXX := hide_ hX
  have hmL := hide_ om.lt
  have hrL := hide_ fr.lt
  obtain ⟨U, hU⟩ : ∃ U, ups (vwsOf m) view = U := ⟨_, rfl⟩
  obtain ⟨m0, hm0⟩ : ∃ m0, U.length = m0 := ⟨_, rfl⟩
  have hm1 := hide_ (show m0 ≤ 1001 from by
    have h1 : (ups (vwsOf m) view).length ≤ (vwsOf m).length := by unfold ups; rw [List.length_reverse]; exact List.length_filter_le _ _
    have := hTw.out.vws.len; rw [hU] at h1; omega)
  have hXgm := hide_ (show ∀ j, X j → ¬ j = gm from fun j hj e => by have := hXw'.out j hj; have := hgm.out; omega)
  have hXbr := hide_ (show ∀ j, X j → ¬ (j = gm ∨ j = br) from fun j hj e => by have := hXw'.out j hj; have := hgm.out; have := hbr.out; omega)
  refine wp_rangeSeq (gf := 44) (lb := #[.pointer (some ⟨b3, 0, none⟩), .pointer (some ⟨b4, 0, none⟩)]) (G := fun b => b = gm ∨ b = br) (G1 := fun b => b = gm ∨ b = br) rfl (enters_of Try.func44 (by kernel_rfl) rfl)
    (above_seq f3 f4 (hTw.out.ext hX) hN (fun h => h.elim n4.out.1 n4.out.2) (fun j hj => ?g2)) (Ext.refl _) (fun x hx => ?sz) (fun b hb => ⟨?g3, .inl hb⟩)
    (fun k A => Mod (fun b => b = gm) w6 A ∧ k ≤ m0 ∧ (∃ c, ThereIs A gm t.length (inV T U k) c ∧ c ≤ 14 * k) ∧ (k = 0 ∨ some3 t (picks (inV T U k) t.length) = false))
    (fun c k A => c = .ret ∧ Mod (fun b => b = gm ∨ b = br) w6 A ∧ Fs A br [.int .i64 r]) ?sI ?sIx ?i0
    (fun k => { tmps := #[.pointer (some ⟨p, 0, none⟩), .int .i64 view, .pointer (some ⟨b2, 0, none⟩), undef, .pointer (some ⟨br, 0, none⟩), .pointer (some ⟨b5, 0, none⟩), .int .i64 (U.getD k 0), undef, undef, undef, undef, .map (some gm), .pointer (some ⟨p, 0, none⟩), .int .i64 view, .func (.func 44) #[] #[.pointer (some ⟨b3, 0, none⟩), .pointer (some ⟨b4, 0, none⟩)], .int .i64 (U.getD k 0), undef, undef, undef, undef, undef, undef, undef, undef, undef, undef, undef, undef, undef, undef, undef, undef, undef, undef, undef, undef, undef, undef, undef, undef, undef, undef, undef, undef, undef, undef], defers := [] }) ?assign ?body ?done ?stop
  case assign =>
    intro l2 k hk W2 K hK
    rw [List.getElem_map, ← getD_at (ups (vwsOf m) view) (by simpa using hk), hU]
    simp only [Array.zip_eq_zipWith, List.zipWith_toArray, List.zipWith_cons_cons, List.zipWith_nil_left]
    try dsimp only at hK
    obtain ⟨x, hx⟩ : ∃ x, U.getD k 0 = x := ⟨_, rfl⟩
    rw [hx] at hK ⊢
    clear hx
    refine region_in (by kernel_rfl) ?_
    go_wp2_with (refine noOut_n ?_)
    exact hK
  case body =>
    rintro l2 k hk0 W hsz ⟨hM0, hkm, ⟨c0, hth0, hc0⟩, hno0⟩
    rw [List.length_map, hU, hm0] at hk0
    try dsimp only
    obtain ⟨x, hx⟩ : ∃ x, U.getD k 0 = x := ⟨_, rfl⟩
    rw [hx]
    have hno := hide_ hno0
    have hxx := hide_ hx
    have hkm' := hide_ hk0
    have hx64 := hide_ (show In64 x from by
      have h1 : (ups (vwsOf m) view)[k]'(by rw [hU, hm0]; exact hk0) ∈ ups (vwsOf m) view := List.getElem_mem _
      have h2 := hTw.out.vws.fit _ (mem_ups.1 h1).1
      rw [← getD_at, hU, hx] at h2
      unfold In64; omega)
    have f2 := hide_ (f20.out.mod hM0 ngm.out.1)
    have f5 := hide_ (f50.out.mod hM0 (Ne.symm n5.out.2.2))
    have hTW := hide_ ((hTw.out.ext hXX.out).mod hM0 hXgm.out)
    have hth0' := hide_ hth0
    have hgmW := hide_ hth0.lt
    have hM0' := hide_ hM0
    obtain ⟨KK, hKK⟩ : ∃ KK : List Int, ([4, 5] : List Int) = KK := ⟨_, rfl⟩
    have hKK' := hide_ hKK
    have hKl := hide_ (show KK.length = 2 from by subst hKK; rfl)
    clear hno0 hx hth0 hM0 hk0 hkm
    gi_wp2_with (refine listIn (by kernel_rfl) ?_; go_wp2_with ((first
      | ((with_reducible refine at_lit ?_); refine w_new Try.elI (i64s [4, 5]) rfl rfl rfl (i64s_cells _) rfl (by omega) ?_; intro u16 W4 hx4 o16; replace o16 : OwnI W.heap.size W4 u16 KK := hKK'.out ▸ (show OwnI W.heap.size W4 u16 [4, 5] from o16))
      | ((with_reducible refine at_bi ?_); refine i_len _ rfl rfl rfl o16.ints ?_)
      | (refine noOut_n ?_)
      | fail) <;> (try simp only [Act.put, List.setIfInBounds_toArray, List.set_cons_zero, List.set_cons_succ])))
    have hub := hide_ (fun j (hj : u16.ownBlock = some j) => (show ¬ j = gm from by have := (o16.own_lt hj).1; have := hgmW.out; omega))
    have hi16 := hide_ o16.ints
    clear o16 hKK
    gi_loopw [18] (fun u18 wr => ∃ a c : Nat, u18 = .int .i64 a ∧ a ≤ KK.length ∧ Hid (ThereIs wr gm t.length (qa T U k a x) c) ∧ Hid (c ≤ 14 * k + 7 * a) ∧ Mod (fun b => b = gm) W wr ∧ Ints wr u16 KK) (fun i _ => KK.length - (intOf i).toNat)
    case atStart => exact ⟨0, c0, rfl, Nat.zero_le _, (hth0'.out.ext hx4).congr fun i _ => qa_zero T U k x i, (show c0 ≤ 14 * k + 7 * 0 from hc0), hx4.mod _, hi16.out⟩
    case round =>
      obtain ⟨a, c, rfl, ha, hth, hc, hM, hk16⟩ := hrel
      by_cases hlt0 : a < KK.length
      · have hlt := hide_ hlt0
        have tl : decide (a < KK.length) = true := decide_eq_true hlt0
        have ha7 : a ≤ 2 := by have := hKl.out; omega
        obtain ⟨kd, hkd0⟩ : ∃ kd, KK[a] = kd := ⟨_, rfl⟩
        have hkd := hide_ hkd0
        have hkd2 := hide_ (show ([4, 5] : List Int)[a]? = some kd from by rw [hKK'.out, List.getElem?_eq_getElem hlt0]; exact congrArg some hkd0)
        have hkd64 := hide_ (show In64 kd from by
          have h1 : kd ∈ KK := hkd0 ▸ List.getElem_mem hlt0
          rw [← hKK'.out] at h1
          simp only [List.mem_cons, List.not_mem_nil, or_false] at h1
          unfold In64; omega)
        obtain ⟨L, hL0⟩ : ∃ L, T.all t.length kd x = L := ⟨_, rfl⟩
        have f2r := f2.out.mod hM ngm.out.1
        clear hkd0 hlt0
        gi_wp2_with (refine listIn (by kernel_rfl) ?_; go_wp2_with ((first
          | ((with_reducible refine at_idx ?_); refine i_idx _ _ a rfl rfl rfl hk16 rfl hlt.out ?_; intro ad had; replace had := had.trans (congrArg (fun z => some (Value.int .i64 z)) hkd.out))
          | ((with_reducible refine at_load ?_); refine w_fload _ rfl rfl rfl f2r rfl (agg_of (by kernel_rfl)) ?_)
          | (go_at_call 14; refine (TAll_any ⟨_, _, _, _, hTW.out.mod hM hXgm.out⟩ hN hkd64.out hx64.out hL0).mono ?_; rintro e w2 ⟨ua, rfl, oa, hx⟩; have hub2 := hide_ (fun j (hj : ua.ownBlock = some j) => (show ¬ j = gm from by have h1 := (oa.own_lt hj).1; have h2 := hgmW.out; have h3 := hM.size; omega)); replace hM := hM.thenE hx; replace hth := hide_ (hth.out.ext hx); replace hk16 := hk16.ext hx; clear hx)
          | ((with_reducible refine at_bi ?_); refine i_len _ rfl rfl rfl oa.ints ?_)
          | (refine noOut_n ?_)
          | fail) <;> (try simp only [Act.put, List.setIfInBounds_toArray, List.set_cons_zero, List.set_cons_succ])))
        have hi17 := hide_ oa.ints
        have hL := hide_ (show L = picks (T.any kd x) t.length from hL0.symm)
        have hth1 := hide_ hth.out
        have hL7 := hide_ (show L.length ≤ 7 from by rw [hL.out]; have := picks_len (T.any kd x) t.length; have := hok.out.2.1; omega)
        clear hL0 oa hth
        gi_loopw [27] (fun u27 w3 => ∃ i c' : Nat, u27 = .int .i64 i ∧ i ≤ L.length ∧ Hid (ThereIs w3 gm t.length (qi (qa T U k a x) L i) c') ∧ Hid (c' ≤ 14 * k + 7 * a + i) ∧ Mod (fun b => b = gm) W w3 ∧ Ints w3 u16 KK ∧ Ints w3 ua L) (fun i _ => L.length - (intOf i).toNat)
        case atStart => exact ⟨0, c, rfl, Nat.zero_le _, hth1.out.congr fun i _ => qi_zero _ L i, (show c ≤ 14 * k + 7 * a + 0 from hc.out), hM, hk16, hi17.out⟩
        case round =>
          clear hM hk16
          obtain ⟨i, c', rfl, hi, hth, hc', hM, hk16, hk17⟩ := hrel
          by_cases hlt1 : i < L.length
          · have hlti := hide_ hlt1
            have tl2 : decide (i < L.length) = true := decide_eq_true hlt1
            have hi7 : i ≤ 7 := by have := hL7.out; omega
            obtain ⟨nd, hnd0, hnd1, hnd2⟩ := mem_picks.1 ((congrArg (fun l => L[i]'(hlti.out) ∈ l) hL.out).mp (List.getElem_mem hlti.out))
            have hnd := hide_ hnd2
            have hndl := hide_ hnd0
            have hn64 := hide_ (In64.nat (n := nd) (by have := hok.out.2.1; omega))
            have f5r := f5.out.mod hM (Ne.symm n5.out.2.2)
            obtain ⟨D3, hD1, hD2, hD3⟩ := hth.out
            have hsz1 := hide_ (show c' ≤ 1000000 from by have h1 := hc'.out; have h2 := hkm'.out; have h3 := hm1.out; have h4 := hKl.out; omega)
            have hput := hide_ (fun v => has_put (v := v) hD2 hnd0 hD3 (fun j _ => qi_succ (qa T U k a x) hlti.out hnd2 j))
            have hisp := hide_ hD2
            clear hlt1 hnd0 hnd1 hnd2 hD3 hD2 hth
            gi_wp2_with (refine listIn (by kernel_rfl) ?_; go_wp2_with ((first
              | ((with_reducible refine at_idx ?_); refine i_idx _ _ i rfl rfl rfl hk17 rfl hlti.out ?_; intro ad had; replace had := had.trans (congrArg (fun z => some (Value.int .i64 z)) hnd.out))
              | ((with_reducible refine at_load ?_); refine w_fload _ rfl rfl rfl f5r rfl (agg_of (by kernel_rfl)) ?_)
              | (refine w_mput Try.keyI Try.underlying57 _ _ _ rfl rfl rfl rfl rfl rfl hD1 hsz1.out (Maps.keyOf_int_mk Try.underlying3 hn64.out.wf) ?_; intro w9 hm9 o9)
              | (refine noOut_n ?_)
              | fail) <;> (try simp only [Act.put, List.setIfInBounds_toArray, List.set_cons_zero, List.set_cons_succ])))
            replace hM := hM.thenM hm9
            replace hk16 := ints_mod hk16 hm9 hub.out
            replace hk17 := ints_mod hk17 hm9 hub2.out
            go_roundw
            case rel => exact ⟨i + 1, c' + 1, by go_num, by have := hlti.out; omega, ⟨_, o9, hisp.out.put _ _, hput.out _⟩, (by have := hc'.out; show c' + 1 ≤ 14 * k + 7 * a + (i + 1); omega), hM, hk16, hk17⟩
            case measure => have := hlti.out; simp [intOf]; omega
          · have tl2 : decide (i < L.length) = false := decide_eq_false hlt1
            have hth9 := hide_ (show ThereIs wr gm t.length (qa T U k (a + 1) x) c' from hth.out.congr fun j hj => by
              have hiL : i = L.length := by omega
              rw [hiL, hL.out, qi_all _ hj]
              exact qa_succ T U k x (by have := hlt.out; have := hKl.out; omega) hkd2.out j)
            have hc9 := hide_ (show c' ≤ 14 * k + 7 * (a + 1) from by have := hc'.out; have := hL7.out; omega)
            clear hlt1 hth
            gi_wp2_with (first
        | (refine listIn (by kernel_rfl) ?_; go_wp2_with (refine noOut_n ?_))
        | fail)
            go_roundw
            case rel => exact ⟨a + 1, c', by go_num, by have := hlt.out; omega, hth9.out, hc9.out, hM, hk16⟩
            case measure => have := hlt.out; simp [intOf]; omega
      · have tl : decide (a < KK.length) = false := decide_eq_false hlt0
        have hth9 := hide_ (show ThereIs wr gm t.length (inV T U (k + 1)) c from hth.out.congr fun j _ => by
          have : a = 2 := by have := hKl.out; omega
          rw [this]; exact qa_two T U k hxx.out j)
        have hc9 := hide_ (show c ≤ 14 * (k + 1) from by have := hc.out; have := hKl.out; omega)
        have hcl := hide_ (show c ≤ 20000 from by have := hc9.out; have := hkm'.out; have := hm1.out; omega)
        have hn7 := hide_ (show t.length ≤ 7 from hok.out.2.1)
        clear hlt0 hth hc hk16
        gi_wp2_with (first
        | (refine listIn (by kernel_rfl) ?_; go_wp2_with (refine noOut_n ?_))
        | fail)
        have f2r := f2.out.mod hM ngm.out.1
        have f5r := f5.out.mod hM (Ne.symm n5.out.2.2)
        have hTr := hide_ (hTW.out.mod hM hXgm.out)
        have f0r := hide_ hTr.out.obj
        have str := hide_ hTr.out.stk
        have hthr := hth9.out
        have hws := hide_ (picks_i64s (inV T U (k + 1)) hn7.out)
        obtain ⟨q, hq0⟩ : ∃ q, some3 t (picks (inV T U (k + 1)) t.length) = q := ⟨_, rfl⟩
        have hq := hide_ hq0
        clear hq0 hTr
        refine region_phx_in (by kernel_rfl) (by kernel_rfl) ?_; intro wd hxd; have F2 := f2r.ext hxd; have F5 := f5r.ext hxd; have F0 := f0r.out.ext hxd; have S0 := str.out.ext hxd; have TH := hthr.ext hxd
        refine Ph.rest 0 8 (by kernel_rfl) ?_
        refine LinL.step (s := (.val (.pointer (some ⟨p, 0, none⟩)))) [(2, none)] rfl (by kernel_rfl) (op_runs rfl fun σ w' hx hg => ⟨_, runs_fload (ρ := σ.eval) (w := w') (.tmp 2) rfl hg.1 (agg_of (by kernel_rfl) _) (F2.ext hx) rfl, rfl⟩) ?_
        refine LinL.step (s := (.val (.pointer (some ⟨p, 0, none⟩)))) [(36, some 0)] rfl (by kernel_rfl) (op_runs rfl fun σ w' hx hg => ⟨_, runs_nil (ρ := σ.eval) (w := w') (.tmp 36) rfl hg.1, rfl⟩) ?_
        refine LinL.step (s := (.val (.pointer (some ⟨p, 0, none⟩)))) [(37, some 0)] rfl (by kernel_rfl) (op_runs rfl fun σ w' hx hg => ⟨_, runs_field (ρ := σ.eval) (w := w') Try.stTal (.tmp 37) p 0 rfl hg.1 (by omega), rfl⟩) ?_
        refine LinL.step (s := (.val (sv))) [(38, some 0)] rfl (by kernel_rfl) (op_runs rfl fun σ w' hx hg => ⟨_, runs_fload (ρ := σ.eval) (w := w') (.tmp 38) rfl hg.1 (agg_of (by kernel_rfl) _) (F0.ext hx) rfl, rfl⟩) ?_
        refine LinL.step (s := (.val (.map (some gm)))) [(5, none)] rfl (by kernel_rfl) (op_runs rfl fun σ w' hx hg => ⟨_, runs_fload (ρ := σ.eval) (w := w') (.tmp 5) rfl hg.1 (agg_of (by kernel_rfl) _) (F5.ext hx) rfl, rfl⟩) ?_
        refine LinL.step (s := (Sp.keysU gm)) [(40, some 0)] rfl (by kernel_rfl) (op_calls 35 #[(.tmp 40)] #[57] (fun σ => #[.map (some gm)]) rfl rfl (fun _ _ => rfl) fun σ w' hx hg => ⟨by have h40 : σ.tmps.getD 40 undef = .map (some gm) := hg.1; simp only [List.map_toArray, List.map_cons, List.map_nil, Act.eval, h40], keysR gm w'⟩) ?_
        refine LinL.step (s := (Sp.ints (picks (inV T U (k + 1)) t.length))) [(41, some 0)] rfl (by kernel_rfl) (op_calls 34 #[(.tmp 41)] #[59] (fun σ => #[σ.tmps.getD 41 undef]) rfl rfl (fun _ _ => rfl) fun σ w' hx hg => ⟨by skip; simp only [List.map_toArray, List.map_cons, List.map_nil, Act.eval], sortR hg.1 (TH.ext hx) hcl.out hn7.out⟩) ?_
        refine LinL.step (s := (.val (.bool q))) [(39, some 3), (42, some 0)] rfl (by kernel_rfl) (op_calls 33 #[(.tmp 39), (.tmp 42)] #[24, 24] (fun σ => #[sv, σ.tmps.getD 42 undef]) rfl rfl (fun _ _ => rfl) fun σ w' hx hg => ⟨by have h39 : σ.tmps.getD 39 undef = sv := hg.1; simp only [List.map_toArray, List.map_cons, List.map_nil, Act.eval, h39], someR ⟨hok.out, S0.ext hx, hg.2.1, hws.out.1, hws.out.2⟩ hq.out⟩) ?_
        intro wN hxN
        simp only [Fin', Sp.ints, Sp.keysU, List.reverse_cons, List.reverse_nil, List.nil_append, List.cons_append, List.drop_zero, List.take_succ_cons, List.take_zero]
        intro q41 hq41 q42 hq42
        simp only [Act.put, List.setIfInBounds_toArray, List.set_cons_zero, List.set_cons_succ]
        refine noOut_n ?_
        replace hM := (hM.thenE hxd).thenE hxN
        have hth0 := (hth9.out.ext hxd).ext hxN
        have fr6 := hide_ fr
        clear hxd hxN F0 S0 F2 F5 TH hthr f2r f5r hq41 hq42
        cases q
        · gi_wp2_with (first
            | (refine listIn (by kernel_rfl) ?_; go_wp2_with (refine noOut_n ?_))
            | fail)
          exact ⟨hM.mono fun _ _ e => .inl e, hM0'.out.thenM hM, by have := hkm'.out; omega, ⟨c, hth0, hc9.out⟩, .inr hq.out⟩
        · have hans := hide_ (show x = r from by
            rw [← hxx.out, ← hr.out, ← hU]
            exact (ahead_yes htab.out hok.out hTw.out.vws (by rw [hU, hm0]; exact hkm'.out) (by rw [hU]; exact hno.out) (by rw [hU]; exact hq.out)).symm)
          have frN := fr6.out.mod (hM0'.out.thenM hM) ngm.out.2
          gi_wp2_with (refine listIn (by kernel_rfl) ?_; go_wp2_with ((first
            | ((with_reducible refine at_store ?_); refine w_fstore _ _ rfl rfl rfl rfl rfl frN (by simp) rfl rfl (by kernel_rfl) ?_; intro w7 hm7 fr7; replace fr7 : Fs w7 br [.int .i64 x] := fr7)
            | (refine noOut_n ?_)
            | fail) <;> (try simp only [Act.put, List.setIfInBounds_toArray, List.set_cons_zero, List.set_cons_succ])))
          exact ⟨(hM.mono fun _ _ e => .inl e).trans hm7 fun _ _ e => .inr e, rfl, ((hM0'.out.thenM hM).mono fun _ _ e => .inl e).trans hm7 fun _ _ e => .inr e, hans.out ▸ fr7⟩
  case g2 => have e : j = gm ∨ j = br := hj; have := hmL.out; have := hrL.out; rcases e with e | e <;> omega
  case sz => obtain ⟨k, hk, rfl⟩ := List.mem_map.1 hx; rfl
  case g3 => have := hmL.out; have := hrL.out; rcases hb with e | e <;> omega
  case sI => exact fun k A B ⟨h1, h2, ⟨c, h3, h4⟩, h5⟩ hb => ⟨h1.thenB hb, h2, ⟨c, h3.below hb hmL.out, h4⟩, h5⟩
  case sIx => exact fun c k A B ⟨h1, h2, h3⟩ hb => ⟨h1, h2.thenB hb, h3.below hb hrL.out⟩
  case i0 => exact ⟨Mod.refl _ _, Nat.zero_le _, ⟨0, ThereIs.nil om fun i _ => decide_eq_false fun ⟨j, hj, _⟩ => by omega, by omega⟩, .inl rfl⟩
  case done =>
    rintro D2 W2 hD ⟨h1, h2, h3, h4⟩ hK
    rw [List.length_map, hU, hm0] at h4
    have hans := hide_ ((ahead_no hok.out hTw.out.vws (by rw [hU, hm0]; exact h4)).symm.trans hr.out)
    have fr2 := fr.mod h1 ngm.out.2
    have hD2 := hide_ (show br ≠ D2 from fun e => by have := hrL.out; omega)
    gi_wp2_with (refine listIn (by kernel_rfl) ?_; go_wp2_with ((first
      | ((with_reducible refine at_store ?_); refine w_fstore _ _ rfl rfl rfl rfl rfl fr2 (by simp) rfl rfl (by kernel_rfl) ?_; intro w7 hm7 fr7; replace fr7 : Fs w7 br [.int .i64 view] := fr7)
      | (refine noOut_n ?_)
      | fail) <;> (try simp only [Act.put, List.setIfInBounds_toArray, List.set_cons_zero, List.set_cons_succ])))
    have hK7 := (hm7.block D2 (Array.getElem?_eq_some_iff.1 hK).1 (fun e => hD2.out (by have e' : D2 = br := e; exact e'.symm))).trans hK
    refine ⟨by simp, .inl ⟨_, _, rfl, run_takeDeferred hK7, ?_⟩⟩
    refine ⟨_, results_cell1 rfl rfl (agg_of (by kernel_rfl) _) (fr7.mod (Mod.putObj _ _ _) hD2.out), by rw [hans.out], ?_⟩
    exact (Mod.putObj _ _ _).after (hm7.after (h1.after hXX.out fun j e => by have e' : j = gm := e; rw [e']; exact hgm.out) fun j e => by have e' : j = br := e; rw [e']; exact hbr.out) fun j e => by have := hXX.out.size; have e' : j = D2 := e; omega
  case stop =>
    rintro D2 c k W2 hD hk ⟨rfl, h2, h3⟩ hK
    have hD2 : br ≠ D2 := fun e => by have := hrL.out; omega
    refine wpIn_ret ?_
    refine ⟨by simp, .inl ⟨_, _, rfl, run_takeDeferred hK, ?_⟩⟩
    refine ⟨_, results_cell1 rfl rfl (agg_of (by kernel_rfl) _) (h3.mod (Mod.putObj _ _ _) hD2), rfl, ?_⟩
    exact (Mod.putObj _ _ _).after (h2.after hXX.out fun j e => by have := hgm.out; have := hbr.out; rcases e with e | e <;> omega) fun j e => by have := hXX.out.size; omega
end Go.Proofs.Ytmhmkaginnddeaa
