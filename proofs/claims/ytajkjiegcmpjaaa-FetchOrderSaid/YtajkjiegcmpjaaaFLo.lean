/- The statement FetchOrder: the first that are wanted are asked for, in their order, until they come; then the next ones. No condition. -/
import Derived.Test.YtajkjiegcmpjaaaPk19
import Derived.Deep.Cut
namespace Go.Proofs.Ytajkjiegcmpjaaa
set_option maxHeartbeats 3200000
set_option maxRecDepth 100000
open Go.RowKit Go.ChangeShapes Go.WideShapes Go.ChangeAt
theorem fetchOrder_law (me nd nms : Int) (W : World) : Calls Try.prog 8 #[.int .i64 me, .int .i64 nd, .int .i64 nms] W fun e w' => e = .returned (.bool true) ∧ Ext W w' := by
  refine z2cz ?_
  go_enter Try.func8, Try.ntmps8
  go_upto_region 3 with (first | (go_at_call 15; refine (fetchAlive_any _).mono ?_; rintro e w2 ⟨rfl, hX⟩) | fail)
  by_cases h1 : nd < 2
  · have d1 : decide (nd < 2) = true := decide_eq_true h1
    clear h1
    go_wp2_with (first | go_big_skip | fail)
    go_ret
    exact z2dz
  have d1 : decide (nd < 2) = false := decide_eq_false h1
  by_cases h2 : 7 < nd
  · have d2 : decide (7 < nd) = true := decide_eq_true h2
    clear h1 h2
    go_wp2_with (first | go_big_skip | fail)
    go_ret
    exact z2dz
  have d2 : decide (7 < nd) = false := decide_eq_false h2
  by_cases h3 : me < 0
  · have d3 : decide (me < 0) = true := decide_eq_true h3
    clear h1 h2 h3
    go_wp2_with (first | go_big_skip | fail)
    go_ret
    exact z2dz
  have d3 : decide (me < 0) = false := decide_eq_false h3
  by_cases h4 : nd ≤ me
  · have d4 : decide (nd ≤ me) = true := decide_eq_true h4
    clear h1 h2 h3 h4
    go_wp2_with (first | go_big_skip | fail)
    go_ret
    exact z2dz
  have d4 : decide (nd ≤ me) = false := decide_eq_false h4
  by_cases h5 : nms < 0
  · have d5 : decide (nms < 0) = true := decide_eq_true h5
    clear h1 h2 h3 h4 h5
    go_wp2_with (first | go_big_skip | fail)
    go_ret
    exact z2dz
  have d5 : decide (nms < 0) = false := decide_eq_false h5
  by_cases h6 : 32 < nms
  · have d6 : decide (32 < nms) = true := decide_eq_true h6
    clear h1 h2 h3 h4 h5 h6
    go_wp2_with (first | go_big_skip | fail)
    go_ret
    exact z2dz
  have d6 : decide (32 < nms) = false := decide_eq_false h6
  obtain ⟨n, rfl⟩ : ∃ n : Nat, nms = (n : Int) := ⟨nms.toNat, by omega⟩
  have hn32 : n ≤ 32 := by omega
  have hnd := hide_ (show 1 ≤ nd ∧ nd ≤ 7 from by omega)
  have hme := hide_ (show 0 ≤ me ∧ me < nd from by omega)
  have hnd1 := hide_ (show ¬ nd ≤ 1 from by omega)
  clear h1 h2 h3 h4 h5 h6
  go_wp2_with (first | go_big_skip | (go_at_call 16; refine (FNew_any me nd).mono ?_; rintro e w1 ⟨p, rfl, hP, hx, hp⟩; have hO : Out W (fun k => k = p) w1 := ⟨hX.trans hx, fun k hk => hk ▸ Nat.le_trans hX.size hp⟩; clear hx hp hX) | fail)
  go_loopw [8] (fun i wr => ∃ (k : Nat) (F : Nat → Prop) (l : List WtD), i = .int .i64 ((k + 1 : Nat) : Int) ∧ k ≤ n ∧ l.map (·.nm) = Fe.nmsF 1 k ∧ Fe.Ok 0 l ∧ Ft F wr p me nd l ∧ Out W F wr) (fun i _ => n + 1 - (RowKit.intOf i).toNat)
  case atStart => exact ⟨0, _, [], rfl, by omega, rfl, Fe.Ok.nil 0, hP, hO⟩
  case round =>
    clear hP hO
    obtain ⟨k, F, l, rfl, hk, hl0, hok0, hP, hO⟩ := hrel
    have hok := hide_ hok0
    have hl := hide_ hl0
    by_cases hge : n ≤ k
    rotate_left
    · have hlt : k < n := by omega
      have t2 : decide ((k : Int) + 1 ≤ (n : Int)) = true := decide_eq_true (by omega)
      have hcan := hide_ (Fe.can_next hl0 (by omega))
      have hnx := hide_ (Fe.want_next hl0 (by omega))
      have hkb : k ≤ 31 := by omega
      have hI := hide_ (show I64 (((k + 1 : Nat) : Int) * 65536) from by unfold I64; omega)
      obtain ⟨z, hz0⟩ : ∃ z : Int, ((k + 1 : Nat) : Int) * 65536 = z := ⟨_, rfl⟩
      rw [hz0] at hcan hnx hI
      have hz := hide_ hz0
      have hlt' := hide_ hlt
      clear hge hlt hl0 hok0 hz0
      go_wp2_with ((first | (go_at_call 17; refine (FWant_any hP hok.out hI.out hcan.out).mono ?_; rintro e w2 ⟨F1, rfl, hP2, hU⟩; have hok2 := hide_ (hok.out.want z); replace hP := hP2; replace hO := hO.upd hU; clear hP2 hU) | ((with_reducible refine at_bin ?_); refine w_shl16 _ rfl rfl rfl rfl hz.out (by omega) ?_) | fail) <;> (try refine z0z ?_))
      go_roundw
      case rel => exact ⟨k + 1, F1, _, by go_num, hlt'.out, hnx.out, hok2.out, hP, hO⟩
      case measure => have := hlt'.out; simp [RowKit.intOf]; omega
    obtain rfl : k = n := by omega
    have t2 : decide ((k : Int) + 1 ≤ (k : Int)) = false := decide_eq_false (by omega)
    have hokA := hide_ (hok0.mono (Nat.zero_le 1))
    clear hge hk hok0 hok hl0
    go_wp2
    go_loopw [9] (fun i wr => ∃ (j : Nat) (F : Nat → Prop) (l : List WtD), i = .int .i64 ((j : Nat) : Int) ∧ 1 ≤ j ∧ j ≤ k + 1 ∧ l.map (·.nm) = Fe.nmsF j k ∧ Fe.Ok j l ∧ Ft F wr p me nd l ∧ Out W F wr) (fun i _ => k + 1 - (RowKit.intOf i).toNat)
    case atStart => exact ⟨1, F, l, by go_num, by omega, by omega, hl.out, hokA.out, hP, hO⟩
    case round =>
      clear hP hO hokA hl
      obtain ⟨j, F, l, rfl, hj1, hj2, hl0, hok0, hP, hO⟩ := hrel
      have hok := hide_ hok0
      have hl := hide_ hl0
      have hfew := hide_ hok0.few
      by_cases hge : k < j
      · obtain rfl : j = k + 1 := by omega
        have t3 : decide ((k : Int) + 1 ≤ (k : Int)) = false := decide_eq_false (by omega)
        have hnil := hide_ (show l.map (·.nm) = [] from by rw [hl0, Fe.nmsF_end])
        clear hge hl0 hok0
        go_wp2_with ((first | (go_at_call 25; refine (FWantedH hP hfew.out).mono ?_; rintro e w3 ⟨v3, rfl, o3, hx⟩; rw [hnil.out] at o3; replace o3 := o3.ints; replace hO := hO.extend hx; clear hx) | ((with_reducible refine at_bi ?_); (try refine w_yes _ _ _ rfl rfl rfl ?_); refine i_len _ rfl rfl rfl o3 ?_) | fail) <;> (try refine z0z ?_))
        go_ret
        exact Keep.intro ⟨rfl, hO.ext⟩
      have hjk : j ≤ k := by omega
      have t3 : decide (j ≤ k) = true := decide_eq_true hjk
      have hlen0 : l.length = k + 1 - j := by
        have := congrArg List.length hl0
        rwa [List.length_map, Fe.nmsF_len] at this
      obtain ⟨A, hA0⟩ : ∃ A, Fe.asks me nd l = A := ⟨_, rfl⟩
      obtain ⟨m, hm0⟩ : ∃ m, min 8 (k + 1 - j) = m := ⟨_, rfl⟩
      have hAl := hide_ (show A.length = m from by rw [← hA0, Fe.asks_len (by have := hnd1.out; omega), hlen0, hm0])
      have hmin := hide_ (show (m : Int) = min 8 ((k : Int) - (j : Int) + 1) from by omega)
      have hmk : m ≤ k + 1 - j := by omega
      have hm8 : m ≤ 8 := by omega
      have hA := hide_ hA0
      have hgl := hide_ (Fe.got_next (show (Fe.tick nd l).map (·.nm) = Fe.nmsF j k from by rw [Fe.tick_names, hl0]) hjk)
      have hokT := hide_ (hok0.tick nd)
      obtain ⟨z, hz0⟩ : ∃ z : Int, ((j : Nat) : Int) * 65536 = z := ⟨_, rfl⟩
      rw [hz0] at hgl
      have hz := hide_ hz0
      have hjk' := hide_ hjk
      have hokG := hide_ (hokT.out.got z)
      have hnm := hide_ (show ∀ (i : Nat) (y : Int × Int), A[i]? = some y → y.2 = ((j + i : Nat) : Int) * 65536 from fun i y hy => by rw [← hA0] at hy; exact Fe.asks_name (by have := hnd1.out; omega) hl0 hy)
      have hwr : wrap64 ((k : Int) - (j : Int)) = (k : Int) - (j : Int) := by unfold wrap64; omega
      have hwr2 : wrap64 ((k : Int) - (j : Int) + 1) = (k : Int) - (j : Int) + 1 := by unfold wrap64; omega
      clear hge hl0 hok0 hA0 hlen0 hm0 hz0 hjk
      go_wp2_with ((first | (go_at_call 18; refine (FTick_any hP hok.out (by omega) hnd.out hme.out).mono ?_; rintro e w4 ⟨v4, rfl, hP2, hr40, hm⟩; have hr4 := hide_ (hA.out ▸ at_recs hr40); replace hP := hP2; replace hO := hO.upd ⟨hm, fun _ h => .inl h⟩; clear hr40 hm hP2) | ((with_reducible refine at_bi ?_); (try refine w_yes _ _ _ rfl rfl rfl ?_); refine w_rlen Try.elAt _ rfl rfl rfl hr4.out ?_; rw [hAl.out]) | ((with_reducible refine at_bi ?_); refine w_min _ _ (m : Int) hmin.out rfl rfl rfl rfl ?_) | fail) <;> (try refine z0z ?_))
      have hx4 := Ext.refl w4
      go_loopw [68] (fun i wr => ∃ i0 : Nat, i = .int .i64 i0 ∧ i0 ≤ m ∧ Ext w4 wr ∧ Ft F wr p me nd (Fe.tick nd l) ∧ Out W F wr) (fun i _ => m - (RowKit.intOf i).toNat)
      case atStart => exact ⟨0, rfl, Nat.zero_le _, hx4, hP, hO⟩
      case round =>
        clear hx4 hP hO
        obtain ⟨i, rfl, hi, hx4, hP, hO⟩ := hrel
        by_cases hge : m ≤ i
        · obtain rfl : i = m := by omega
          have t4 : decide (i < i) = false := by simp
          clear hge hi
          go_wp2_with ((first | (go_at_call 20; refine (FGot_any (n := z) hP hokT.out).mono ?_; rintro e w2 ⟨F3, rfl, hP2, hU⟩; replace hP := hP2; replace hO := hO.upd hU; clear hP2 hU) | ((with_reducible refine at_bin ?_); refine w_shl16 _ rfl rfl rfl rfl hz.out (by omega) ?_) | fail) <;> (try refine z0z ?_))
          go_roundw
          case rel => exact ⟨j + 1, F3, _, by go_num, by omega, by have := hjk'.out; omega, hgl.out, hokG.out, hP, hO⟩
          case measure => have := hjk'.out; simp [RowKit.intOf]; omega
        have hlt : i < m := by omega
        have t4 : decide (i < m) = true := decide_eq_true hlt
        obtain ⟨y, hy0⟩ : ∃ y, A[i]? = some y := ⟨_, List.getElem?_eq_getElem (by have := hAl.out; omega)⟩
        have hy := hide_ hy0
        obtain ⟨y2, hy20⟩ : ∃ y2 : Int, y.2 = y2 := ⟨_, rfl⟩
        have hy2 := hide_ hy20
        have hyz := hide_ (show ((j : Int) + (i : Int)) * 65536 = y2 from by rw [← hy20, hnm.out i y hy0]; omega)
        have hne : (y2 != y2) = false := by simp
        have hlt' := hide_ hlt
        have hib : i ≤ 8 := by omega
        have hwi : wrap64 ((j : Int) + (i : Int)) = (j : Int) + (i : Int) := by unfold wrap64; omega
        clear hge hlt hy0 hy20
        go_wp2_with ((first | ((with_reducible refine at_idx ?_); refine w_atidx Try.elAt _ _ i rfl rfl rfl rfl hr4.out hx4 hy.out ?_; intro pa hrow0; have hrow := hide_ hrow0; clear hrow0) | ((with_reducible refine at_load ?_); refine w_ploadN Try.stAt _ rfl rfl rfl hrow.out rfl ?_) | ((with_reducible refine at_alloc ?_); refine w_allocN Try.stAt rfl rfl ?_; intro g12 w5 hg12 hxa f12) | ((with_reducible refine at_store ?_); refine w_astoreN Try.stAt _ _ (us := askR me y) rfl rfl rfl rfl rfl f12 rfl rfl (at_one _ _) ?_; intro w6 hm6 f6; have hx := hm6.after hxa (fun i e => e ▸ hg12); replace hx4 := hx4.trans hx; replace hP := hP.ext hx; replace hO := hO.extend hx; replace f12 := f6; clear hx hm6 hxa f6 hg12) | ((with_reducible refine at_field ?_); refine w_fieldB (t := 59) (i := 1) (off := 1) (by kernel_rfl) rfl _ _ rfl rfl rfl ?_) | ((with_reducible refine at_field ?_); refine w_fieldB (t := 57) (i := 4) (off := 4) (by kernel_rfl) rfl _ _ rfl rfl rfl ?_) | ((with_reducible refine at_load ?_); refine w_fload _ (i := 5) (u := .int .i64 y.2) rfl rfl rfl f12 rfl (agg_of (by kernel_rfl)) ?_; rw [hy2.out]) | ((with_reducible refine at_bin ?_); refine w_shl16 _ rfl rfl rfl rfl hyz.out (by omega) ?_) | fail) <;> (try refine z0z ?_))
        go_roundw
        case rel => exact ⟨i + 1, by go_num, hlt'.out, hx4, hP, hO⟩
        case measure => have := hlt'.out; simp [RowKit.intOf]; omega
theorem fetchOrder_lifted (os : Os) (started : os.Started) (H : Type) (enc : TypeId × Value → H) :
    ReturnsInHanded {} Try.checked os 8 .any (Rows.fetchOrderSpec.pre6 enc Try.prog Try.f8 Rows.fetchOrderRow.domain false) (Rows.fetchOrderSpec.post enc Try.prog Try.f8 false true false false) := by
  refine law_lifted (s := Rows.fetchOrderSpec) (conds := Rows.fetchOrderRow.domain) Try.func8 (by kernel_rfl) rfl (fun H ds h => by
      rw [show Try.f8.params.size = 3 from rfl] at h
      match ds, h with
      | [d0, d1, d2], _ => rfl) rfl rfl (by decide +kernel) os started H enc
    (ChangeSpec.witness6 (enc := enc) (C := Try.checked) false ⟨#[], #[.int .i64 0, .int .i64 0, .int .i64 0], []⟩ 8 (by kernel_rfl) (by kernel_rfl) (by kernel_rfl) (by kernel_rfl)) ?_
  intro W base args ds p hval hA hsz _
  have hp : Try.f8.params.toList = [3, 3, 3] := rfl
  rw [hp] at hA hsz
  obtain ⟨v0, v1, v2, d0, d1, d2, p0, p1, p2, rfl, rfl, rfl, h0, h1, h2⟩ := trodAll_three hA
  obtain ⟨a0, rfl, b0, c0⟩ := arg_int (hval 0 3 v0 rfl rfl) h0
  obtain ⟨a1, rfl, b1, c1⟩ := arg_int (hval 1 3 v1 rfl rfl) h1
  obtain ⟨a2, rfl, b2, c2⟩ := arg_int (hval 2 3 v2 rfl rfl) h2
  exact fetchOrder_law a0 a1 a2 W
theorem fetchOrder_holds : Rows.FetchOrderSaid :=
  OpenClaim.holds_of_wide 8 Try.f8 rfl rfl rfl rfl rfl rfl rfl ⟨rfl, rfl, rfl, rfl, rfl⟩ rfl rfl rfl rfl rfl (by kernel_rfl) Try.func8 (by kernel_rfl)
    (of_decide_eq_true (by kernel_rfl)) (by unfold Func.isWrapper; first | (rw [if_pos (by decide +kernel)]; kernel_rfl) | (rw [if_neg (by decide +kernel)]; exact ⟨rfl, rfl⟩))
    (fun os started H enc _ => fetchOrder_lifted os started H enc)
#print axioms fetchOrder_holds
end Go.Proofs.Ytajkjiegcmpjaaa
