/- The statement MempoolOrder: whatever was added, what is there stands in order, no two of one name, sixteen at most; and of few enough unlike ones that can be all are there. No condition. -/
import Derived.Test.YtdacclcaopmalaaMLa
import Derived.Test.YtdacclcaopmalaaMemP
namespace Go.Proofs.Ytdacclcaopmalaa
set_option maxRecDepth 100000
open Go.RowKit Go.ChangeShapes Go.WideShapes Go.ChangeAt

set_option maxRecDepth 100000 in
set_option maxHeartbeats 6400000 in
theorem mempoolOrder_law (v0 : Value) (l : List TxD) (W : World) (hl00 : Recs 2 TxR W v0 l) : Calls Try.prog 5 #[v0] W fun e w' => e = .returned (.bool true) ∧ Ext W w' := by
  refine calls_keep ?_
  have hl0 := hide_ hl00
  have hmax := hl00.len_le
  unfold maxLen at hmax
  have hraws := hide_ (recs_rows hl00).2
  clear hl00
  by_cases hbig : 100 < l.length
  · have t1 : decide ((100 : Int) < (l.length : Int)) = true := decide_eq_true (by omega)
    go_enter Try.func5, Try.ntmps5
    go_wp2_with ((first
      | (go_at_call 10; refine (poolAlive_any _).mono ?_; rintro e w2 ⟨rfl, hX⟩)
      | ((with_reducible refine at_bi ?_); refine w_rlen Try.elTx _ rfl rfl rfl (hl0.out.ext TxR.stays hX) ?_)
      | fail) <;> (try simp only [Act.put, List.setIfInBounds_toArray, List.set_cons_zero, List.set_cons_succ]))
    go_ret
    exact Keep.intro ⟨rfl, hX⟩
  have t1 : decide ((100 : Int) < (l.length : Int)) = false := decide_eq_false (by omega)
  go_enter Try.func5, Try.ntmps5
  go_wp2_with ((first
    | (go_at_call 11; refine (PNew_any (w := _)).mono ?_; rintro e w1 ⟨p, rfl, hP, hx, hp⟩; have hO : Out W (fun k => k = p) w1 := ⟨hX.trans hx, fun k hk => hk ▸ Nat.le_trans hX.size hp⟩; clear hX hx hp)
    | (go_at_call 10; refine (poolAlive_any _).mono ?_; rintro e w2 ⟨rfl, hX⟩)
    | ((with_reducible refine at_bi ?_); have _t := hX; refine w_rlen Try.elTx _ rfl rfl rfl (hl0.out.ext TxR.stays hX) ?_)
    | ((with_reducible refine at_bi ?_); refine w_rlen Try.elTx _ rfl rfl rfl (hl0.out.ext TxR.stays hO.ext) ?_)
    | fail) <;> (try simp only [Act.put, List.setIfInBounds_toArray, List.set_cons_zero, List.set_cons_succ]))
  go_loopw [4, 20] (fun u4 i wr => ∃ (k tk : Nat) (F : Nat → Prop), i = .int .i64 k ∧ u4 = .int .i64 tk ∧ k ≤ l.length ∧ tk ≤ k ∧ (pst l k).length = min tk 16 ∧ Pl F wr p (pst l k) ∧ Out W F wr) (fun _ i _ => l.length - (RowKit.intOf i).toNat)
  case atStart => exact ⟨0, 0, _, rfl, rfl, Nat.zero_le _, Nat.le_refl _, by rw [pst_zero]; rfl, by rw [pst_zero]; exact hP, hO⟩
  case round =>
    clear hP hO
    obtain ⟨k, tk, F, rfl, rfl, hk, htk, hlen, hP, hO⟩ := hrel
    have hok := pst_ok l k
    by_cases hge : l.length ≤ k
    rotate_left
    · have hlt : k < l.length := by omega
      have t2 : decide (k < l.length) = true := by simpa using hlt
      obtain ⟨d, hd0⟩ : ∃ d, l[k]? = some d := ⟨_, List.getElem?_eq_getElem hlt⟩
      have hdr := hide_ (hraws.out d (List.mem_of_getElem? hd0))
      have hst := pst_succ hd0
      obtain ⟨X, hX0⟩ : ∃ X, pst l k = X := ⟨_, rfl⟩
      rw [hX0] at hlen hP hok hst
      obtain ⟨⟨X2, er⟩, hR0⟩ : ∃ R, Mem.add X d = R := ⟨_, rfl⟩
      rw [hR0] at hst
      have hR := hide_ hR0
      have hst' := hide_ hst
      have hok' := hide_ hok
      have hd := hide_ hd0
      have hlt' := hide_ hlt
      have hkb : k ≤ 100 := by omega
      have hfew := hok.few
      cases c : (er == 0)
      · have hno := hide_ (add_no hR0 c).1
        have hlen' := hide_ hlen
        clear hge hlt hd0 hst hok hR0 hlen hX0
        go_wp2_with ((first
          | (go_at_call 13; refine (PAdd_any (t := d) hP hok'.out hdr.out).mono ?_; rintro e w3 ⟨F2, rfl, hP2, hU⟩; rw [hR.out] at hP2; rw [hR.out]; replace hP := hP2; replace hO := hO.upd hU; clear hP2 hU f6)
          | ((with_reducible refine at_idx ?_); refine w_tidx Try.elTx _ _ k rfl rfl rfl rfl hl0.out hO.ext hd.out ?_; intro pa hrow; replace hrow := hide_ hrow)
          | ((with_reducible refine at_load ?_); refine w_pload Try.stTx _ rfl rfl rfl hrow.out rfl ?_)
          | ((with_reducible refine at_alloc ?_); refine w_alloc Try.stTx rfl rfl ?_; intro g6 w2 hg6 hx2 f6)
          | ((with_reducible refine at_store ?_); refine w_astore Try.stTx _ _ (us := [.int .i64 d.id, .int .i64 d.fee]) rfl rfl rfl rfl rfl f6 rfl rfl (by intro u hu; simp at hu; rcases hu with rfl | rfl <;> rfl) ?_; intro w3 hm3 f8; replace hx2 := hm3.after hx2 (fun i hi => by subst hi; exact hg6); replace f6 := f8; replace hP := hP.ext hx2; replace hO := hO.extend hx2; clear hm3 f8 hx2 hg6)
          | ((with_reducible refine at_load ?_); refine w_aload Try.stTx (.tmp 6) rfl rfl rfl f6 rfl ?_)
          | fail) <;> (try simp only [Act.put, List.setIfInBounds_toArray, List.set_cons_zero, List.set_cons_succ]))
        go_roundw
        case rel => exact ⟨k + 1, tk, F2, by go_num, rfl, hlt'.out, by omega, by rw [hst'.out, hno.out]; exact hlen'.out, by rw [hst'.out]; exact hP, hO⟩
        case measure => have := hlt'.out; simp [RowKit.intOf]; omega
      · have hyes := hide_ (add_yes hfew hR0 c).2.2.2.2.1
        have hlen' := hide_ hlen
        clear hge hlt hd0 hst hok hR0 hlen hX0
        go_wp2_with ((first
          | (go_at_call 13; refine (PAdd_any (t := d) hP hok'.out hdr.out).mono ?_; rintro e w3 ⟨F2, rfl, hP2, hU⟩; rw [hR.out] at hP2; rw [hR.out]; replace hP := hP2; replace hO := hO.upd hU; clear hP2 hU f6)
          | ((with_reducible refine at_idx ?_); refine w_tidx Try.elTx _ _ k rfl rfl rfl rfl hl0.out hO.ext hd.out ?_; intro pa hrow; replace hrow := hide_ hrow)
          | ((with_reducible refine at_load ?_); refine w_pload Try.stTx _ rfl rfl rfl hrow.out rfl ?_)
          | ((with_reducible refine at_alloc ?_); refine w_alloc Try.stTx rfl rfl ?_; intro g6 w2 hg6 hx2 f6)
          | ((with_reducible refine at_store ?_); refine w_astore Try.stTx _ _ (us := [.int .i64 d.id, .int .i64 d.fee]) rfl rfl rfl rfl rfl f6 rfl rfl (by intro u hu; simp at hu; rcases hu with rfl | rfl <;> rfl) ?_; intro w3 hm3 f8; replace hx2 := hm3.after hx2 (fun i hi => by subst hi; exact hg6); replace f6 := f8; replace hP := hP.ext hx2; replace hO := hO.extend hx2; clear hm3 f8 hx2 hg6)
          | ((with_reducible refine at_load ?_); refine w_aload Try.stTx (.tmp 6) rfl rfl rfl f6 rfl ?_)
          | fail) <;> (try simp only [Act.put, List.setIfInBounds_toArray, List.set_cons_zero, List.set_cons_succ]))
        go_roundw
        case rel => exact ⟨k + 1, tk + 1, F2, by go_num, by go_num, hlt'.out, by omega, by rw [hst'.out, hyes.out, hlen'.out]; omega, by rw [hst'.out]; exact hP, hO⟩
        case measure => have := hlt'.out; simp [RowKit.intOf]; omega
    obtain rfl : k = l.length := by omega
    have t2 : decide (l.length < l.length) = false := by simp
    obtain ⟨K, hK⟩ : ∃ K, pst l l.length = K := ⟨_, rfl⟩
    rw [hK] at hP hok hlen
    have hfew := hide_ hok.few
    have hfew2 := hok.few
    have hmin := hide_ (show (K.length : Int) = min (tk : Int) 16 from by omega)
    have hless := hide_ (fun i j u t hu ht hij => hok.less (i := i) (j := j) (u := u) (t := t) hu ht hij)
    have hunl := hide_ (fun i j u t hu ht (hij : j < i) => hok.unlike (i := i) (j := j) (u := u) (t := t) hu ht (by omega))
    clear hge hK hok hlen hk
    go_wp2_with ((first
      | (go_at_call 12; refine (PList_any hP hfew.out).mono ?_; rintro e w5 ⟨v7, rfl, o7, hx⟩; replace hO := hO.extend hx; have hr7 := hide_ o7.recs; clear hx hP o7)
      | ((with_reducible refine at_bi ?_); refine w_rlen Try.elTx _ rfl rfl rfl hr7.out ?_)
      | fail) <;> (try simp only [Act.put, List.setIfInBounds_toArray, List.set_cons_zero, List.set_cons_succ]))
    have hWX := hide_ hO.ext
    clear hO
    go_loopw [35] (fun i wr => ∃ m : Nat, i = .int .i64 m ∧ m ≤ K.length ∧ Ext w5 wr) (fun i _ => K.length - (RowKit.intOf i).toNat)
    case atStart => exact ⟨0, rfl, Nat.zero_le _, Ext.refl _⟩
    case round =>
      obtain ⟨m, rfl, hm, hX⟩ := hrel
      by_cases hgm : K.length ≤ m
      · obtain rfl : m = K.length := by omega
        have t3 : decide (K.length < K.length) = false := by simp
        clear hgm hm
        go_wp2_with ((first
          | ((with_reducible refine at_bi ?_); refine w_rlen Try.elTx _ rfl rfl rfl (hr7.out.ext TxR.stays hX) ?_)
          | ((with_reducible refine at_bi ?_); refine w_min _ _ (K.length : Int) hmin.out rfl rfl rfl rfl ?_)
          | fail) <;> (try simp only [Act.put, List.setIfInBounds_toArray, List.set_cons_zero, List.set_cons_succ]))
        go_ret
        exact Keep.intro ⟨rfl, hWX.out.trans hX⟩
      have hlm : m < K.length := by omega
      have t3 : decide (m < K.length) = true := by simpa using hlm
      obtain ⟨t, ht0⟩ : ∃ t, K[m]? = some t := ⟨_, List.getElem?_eq_getElem hlm⟩
      have ht := hide_ ht0
      have hlm' := hide_ hlm
      have hlml := hide_ (show m ≤ K.length from by omega)
      have hmb : m ≤ 16 := by omega
      have hl42 := hide_ (show (K.take m).length = m from by rw [List.length_take]; omega)
      clear hgm hm hlm ht0
      go_wp2_with ((first
        | ((with_reducible refine at_idx ?_); refine w_tidx Try.elTx _ _ m rfl rfl rfl rfl hr7.out hX ht.out ?_; intro pa hrow; replace hrow := hide_ hrow)
        | ((with_reducible refine at_load ?_); refine w_pload Try.stTx _ rfl rfl rfl hrow.out rfl ?_)
        | ((with_reducible refine at_alloc ?_); refine w_alloc Try.stTx rfl rfl ?_; intro g9 w2 hg9 hx2 f9)
        | ((with_reducible refine at_store ?_); refine w_astore Try.stTx _ _ (us := [.int .i64 t.id, .int .i64 t.fee]) rfl rfl rfl rfl rfl f9 rfl rfl (by intro u hu; simp at hu; rcases hu with rfl | rfl <;> rfl) ?_; intro w3 hm3 f8; replace hx2 := hm3.after hx2 (fun i hi => by subst hi; exact hg9); replace f9 := f8; replace hX := hX.trans hx2; clear hm3 f8 hx2 hg9)
        | ((with_reducible refine at_cut ?_); refine w_nto0 Try.elTx _ _ m rfl rfl rfl rfl hr7.out hlml.out ?_; intro v42 r42)
        | ((with_reducible refine at_bi ?_); refine w_rlen Try.elTx _ rfl rfl rfl (r42.ext TxR.stays hX) ?_; rw [hl42.out])
        | fail) <;> (try simp only [Act.put, List.setIfInBounds_toArray, List.set_cons_zero, List.set_cons_succ]))
      replace r42 := hide_ r42
      go_loopw [44] (fun i wr => ∃ j : Nat, i = .int .i64 j ∧ j ≤ m ∧ Ext w5 wr ∧ Fs wr g9 [.int .i64 t.id, .int .i64 t.fee]) (fun i _ => m - (RowKit.intOf i).toNat)
      case atStart => exact ⟨0, rfl, Nat.zero_le _, hX, f9⟩
      case round =>
        clear hX f9
        obtain ⟨j, rfl, hj, hX, f9⟩ := hrel
        by_cases hgj : m ≤ j
        · obtain rfl : j = m := by omega
          have t4 : decide (j < j) = false := by simp
          clear hgj hj
          go_wp2
          go_roundw
          case rel => exact ⟨j + 1, by go_num, hlm'.out, hX⟩
          case measure => have := hlm'.out; simp [RowKit.intOf]; omega
        have hlj : j < m := by omega
        have t4 : decide (j < m) = true := by simpa using hlj
        obtain ⟨u, hu0⟩ : ∃ u, K[j]? = some u := ⟨_, List.getElem?_eq_getElem (by have := hlml.out; omega)⟩
        have hu := hide_ (show (K.take m)[j]? = some u from by rw [List.getElem?_take_of_lt hlj]; exact hu0)
        have hls := hide_ (hless.out _ _ _ _ hu0 ht.out hlj)
        have c1 : (u.id == t.id) = false := by rw [beq_eq_false_iff_ne]; exact hunl.out _ _ _ _ hu0 ht.out hlj
        have hlj' := hide_ hlj
        have hjb : j ≤ 16 := by omega
        clear hgj hj hlj hu0
        go_wp2_with ((first
          | ((try refine w_yes _ _ _ rfl rfl rfl ?_); go_at_call 20; refine (refLess_any u t _).mono ?_; rintro e w4 ⟨rfl, hx⟩; rw [hls.out]; replace f9 := f9.ext hx; replace hX := hX.trans hx; clear hx f11)
          | ((with_reducible refine at_idx ?_); refine w_tidx Try.elTx _ _ j rfl rfl rfl rfl r42.out hX hu.out ?_; intro pa hrow; replace hrow := hide_ hrow)
          | ((with_reducible refine at_load ?_); refine w_pload Try.stTx _ rfl rfl rfl hrow.out rfl ?_)
          | ((with_reducible refine at_alloc ?_); refine w_alloc Try.stTx rfl rfl ?_; intro g11 w2 hg11 hx2 f11)
          | ((with_reducible refine at_store ?_); refine w_astore Try.stTx _ _ (us := [.int .i64 u.id, .int .i64 u.fee]) rfl rfl rfl rfl rfl f11 rfl rfl (by intro u hu; simp at hu; rcases hu with rfl | rfl <;> rfl) ?_; intro w3 hm3 f8; replace hx2 := hm3.after hx2 (fun i hi => by subst hi; exact hg11); replace f11 := f8; replace f9 := f9.ext hx2; replace hX := hX.trans hx2; clear hm3 f8 hx2 hg11)
          | ((with_reducible refine at_field ?_); (try refine w_yes _ _ _ rfl rfl rfl ?_); refine w_field Try.stTx _ _ _ rfl rfl rfl (by omega) ?_)
          | ((with_reducible refine at_load ?_); (try refine w_yes _ _ _ rfl rfl rfl ?_); refine w_aload Try.stTx (.tmp 11) rfl rfl rfl f11 rfl ?_)
          | ((with_reducible refine at_load ?_); (try refine w_yes _ _ _ rfl rfl rfl ?_); refine w_aload Try.stTx (.tmp 9) rfl rfl rfl f9 rfl ?_)
          | ((with_reducible refine at_load ?_); refine w_fload (.tmp 48) rfl rfl rfl f11 rfl (agg_of (by kernel_rfl)) ?_)
          | ((with_reducible refine at_load ?_); refine w_fload (.tmp 50) rfl rfl rfl f9 rfl (agg_of (by kernel_rfl)) ?_)
          | fail) <;> (try simp only [Act.put, List.setIfInBounds_toArray, List.set_cons_zero, List.set_cons_succ]))
        go_roundw
        case rel => exact ⟨j + 1, by go_num, hlj'.out, hX, f9⟩
        case measure => have := hlj'.out; simp [RowKit.intOf]; omega

set_option maxRecDepth 100000 in
theorem mempoolOrder_lifted (os : Os) (started : os.Started) (H : Type) (enc : TypeId × Value → H) :
    ReturnsInHanded {} Try.checked os 5 .any (Rows.mempoolOrderSpec.pre6 enc Try.prog Try.f5 Rows.mempoolOrderRow.domain false) (Rows.mempoolOrderSpec.post enc Try.prog Try.f5 false true false false) := by
  refine law_lifted (s := Rows.mempoolOrderSpec) (conds := Rows.mempoolOrderRow.domain) Try.func5 (by kernel_rfl) rfl (fun H ds h => by
      rw [show Try.f5.params.size = 1 from rfl] at h
      match ds, h with
      | [d0], _ => rfl) rfl rfl (by decide +kernel) os started H enc
    (ChangeSpec.witness6 (enc := enc) (C := Try.checked) false ⟨#[], #[.slice none 0 0], []⟩ 8 (by kernel_rfl) (by kernel_rfl) (by kernel_rfl) (by kernel_rfl)) ?_
  intro W base args ds p hval hA hsz _
  have hp : Try.f5.params.toList = [23] := rfl
  rw [hp] at hA hsz
  obtain ⟨v0, d0, rfl, rfl, h0⟩ := trodAll_one hA
  obtain ⟨l0, k0, m0⟩ := arg_TxsL hsz (j := 0) rfl rfl (hval 0 23 v0 rfl rfl) h0
  exact mempoolOrder_law v0 l0 W k0

theorem mempoolOrder_holds : Rows.MempoolOrderSaid :=
  OpenClaim.holds_of_wide 5 Try.f5 rfl rfl rfl rfl rfl rfl rfl ⟨rfl, rfl, rfl, rfl, rfl⟩ rfl rfl rfl rfl rfl (by kernel_rfl) Try.func5 (by kernel_rfl)
    (of_decide_eq_true (by kernel_rfl)) (by unfold Func.isWrapper; first | (rw [if_pos (by decide +kernel)]; kernel_rfl) | (rw [if_neg (by decide +kernel)]; exact ⟨rfl, rfl⟩))
    (fun os started H enc _ => mempoolOrder_lifted os started H enc)
#print axioms mempoolOrder_holds

end Go.Proofs.Ytdacclcaopmalaa
