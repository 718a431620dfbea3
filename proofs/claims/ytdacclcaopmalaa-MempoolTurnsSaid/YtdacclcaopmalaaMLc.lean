/- The statement MempoolTurns: few enough unlike ones are there in whichever order they came. No condition. -/
import Derived.Test.YtdacclcaopmalaaMLa
import Derived.Test.YtdacclcaopmalaaMemP
namespace Go.Proofs.Ytdacclcaopmalaa
set_option maxRecDepth 100000
open Go.RowKit Go.ChangeShapes Go.WideShapes Go.ChangeAt

/-- Two pools in one heap. -/
structure Two9 (W w : World) (F G : Nat → Prop) (p q : Nat) (X Y : List TxD) : Prop where
  a : Pl F w p X
  b : Pl G w q Y
  ab : ∀ k, F k → ¬ G k
  oa : Out W F w
  ob : Out W G w
section
variable {W w w' : World} {F G F' G' : Nat → Prop} {p q : Nat} {X Y X' Y' : List TxD}
theorem Two9.ext (h : Two9 W w F G p q X Y) (he : Ext w w') : Two9 W w' F G p q X Y := ⟨h.a.ext he, h.b.ext he, h.ab, h.oa.extend he, h.ob.extend he⟩
theorem Two9.updA (h : Two9 W w F G p q X Y) (hU : Upd F F' w w') (hP : Pl F' w' p X') : Two9 W w' F' G p q X' Y :=
  ⟨hP, h.b.mod hU.mod fun k hk hf => h.ab k hf hk, fun k hk hg => (hU.sub k hk).elim (fun e => h.ab k e hg) fun e => by have := h.b.lt k hg; omega, h.oa.upd hU, h.ob.other hU.mod h.oa.new⟩
theorem Two9.updB (h : Two9 W w F G p q X Y) (hU : Upd G G' w w') (hP : Pl G' w' q Y') : Two9 W w' F G' p q X Y' :=
  ⟨h.a.mod hU.mod fun k hk hg => h.ab k hk hg, hP, fun k hk hg => (hU.sub k hg).elim (fun e => h.ab k hk e) fun e => by have := h.a.lt k hk; omega, h.oa.other hU.mod h.ob.new, h.ob.upd hU⟩
end

set_option maxRecDepth 100000 in
set_option maxHeartbeats 6400000 in
theorem mempoolTurns_law (v0 : Value) (l : List TxD) (W : World) (hl00 : Recs 2 TxR W v0 l) : Calls Try.prog 8 #[v0] W fun e w' => e = .returned (.bool true) ∧ Ext W w' := by
  refine calls_keep ?_
  have hl0 := hide_ hl00
  have hmax := hl00.len_le
  unfold maxLen at hmax
  have hraws := hide_ (recs_rows hl00).2
  clear hl00
  by_cases hbig : 16 < l.length
  · have t1 : decide ((16 : Int) < (l.length : Int)) = true := decide_eq_true (by omega)
    go_enter Try.func8, Try.ntmps8
    go_wp2_with ((first
      | (go_at_call 10; refine (poolAlive_any _).mono ?_; rintro e w2 ⟨rfl, hX⟩)
      | ((with_reducible refine at_bi ?_); refine w_rlen Try.elTx _ rfl rfl rfl (hl0.out.ext TxR.stays hX) ?_)
      | fail) <;> (try simp only [Act.put, List.setIfInBounds_toArray, List.set_cons_zero, List.set_cons_succ]))
    go_ret
    exact Keep.intro ⟨rfl, hX⟩
  have t1 : decide ((16 : Int) < (l.length : Int)) = false := decide_eq_false (by omega)
  have tokA : True := trivial
  go_enter Try.func8, Try.ntmps8
  go_wp2_with ((first
    | (go_at_call 11; have _t := tokA; refine (PNew_any (w := _)).mono ?_; rintro e w1 ⟨p, rfl, hP, hx, hp⟩; replace hp := Nat.le_trans hX.size hp; replace hX := hX.trans hx; clear hx tokA)
    | (go_at_call 11; refine (PNew_any (w := _)).mono ?_; rintro e w1 ⟨q, rfl, hQ, hx, hq⟩; have hT : Two9 W w1 (fun k => k = p) (fun k => k = q) p q [] [] := ⟨hP.ext hx, hQ, fun k hk e => by have := hP.lt p rfl; omega, ⟨hX.trans hx, fun k hk => hk ▸ hp⟩, ⟨hX.trans hx, fun k hk => hk ▸ Nat.le_trans hX.size hq⟩⟩; clear hx hP hQ hp hq hX)
    | (go_at_call 10; refine (poolAlive_any _).mono ?_; rintro e w2 ⟨rfl, hX⟩)
    | ((with_reducible refine at_bi ?_); have _t := hX; refine w_rlen Try.elTx _ rfl rfl rfl (hl0.out.ext TxR.stays hX) ?_)
    | ((with_reducible refine at_bi ?_); refine w_rlen Try.elTx _ rfl rfl rfl (hl0.out.ext TxR.stays hT.oa.ext) ?_)
    | fail) <;> (try simp only [Act.put, List.setIfInBounds_toArray, List.set_cons_zero, List.set_cons_succ]))
  go_loopw [19] (fun i wr => ∃ (k : Nat) (F : Nat → Prop), i = .int .i64 k ∧ k ≤ l.length ∧ Hid ((l.take k).map TxD.id).Nodup ∧ Two9 W wr F (fun k => k = q) p q (pst l k) []) (fun i _ => l.length - (RowKit.intOf i).toNat)
  case atStart => exact ⟨0, _, rfl, Nat.zero_le _, hide_ (by simp), by rw [pst_zero]; exact hT⟩
  case round =>
    clear hT
    obtain ⟨k, F, rfl, hk, hnd, hT⟩ := hrel
    by_cases hge : l.length ≤ k
    rotate_left
    · have hlt : k < l.length := by omega
      have t2 : decide (k < l.length) = true := by simpa using hlt
      obtain ⟨d, hd0⟩ : ∃ d, l[k]? = some d := ⟨_, List.getElem?_eq_getElem hlt⟩
      have hdr := hide_ (hraws.out d (List.mem_of_getElem? hd0))
      have hst := hide_ (pst_succ hd0)
      have hok := hide_ (pst_ok l k)
      have hnds := hide_ (fun h => nodup_snoc hnd.out hd0 h)
      obtain ⟨X, hX0⟩ : ∃ X, pst l k = X := ⟨_, rfl⟩
      rw [hX0] at hT hst hok
      have hd := hide_ hd0
      have hlt' := hide_ hlt
      have hkb : k ≤ 16 := by omega
      have hlml := hide_ (show k ≤ l.length from by omega)
      have hl42 := hide_ (show (l.take k).length = k from by rw [List.length_take]; omega)
      clear hge hlt hX0 hd0
      go_wp2_with ((first
        | ((with_reducible refine at_idx ?_); refine w_tidx Try.elTx _ _ k rfl rfl rfl rfl hl0.out hT.oa.ext hd.out ?_; intro pa hrow; replace hrow := hide_ hrow)
        | ((with_reducible refine at_load ?_); refine w_pload Try.stTx _ rfl rfl rfl hrow.out rfl ?_)
        | ((with_reducible refine at_alloc ?_); refine w_alloc Try.stTx rfl rfl ?_; intro g6 w2 hg6 hx2 f6; have n6 := hide_ (show ¬ F g6 from fun h => by have := hT.a.lt g6 h; omega))
        | ((with_reducible refine at_store ?_); refine w_astore Try.stTx _ _ (us := [.int .i64 d.id, .int .i64 d.fee]) rfl rfl rfl rfl rfl f6 rfl rfl (by intro u hu; simp at hu; rcases hu with rfl | rfl <;> rfl) ?_; intro w3 hm3 f8; replace hx2 := hm3.after hx2 (fun i hi => by subst hi; exact hg6); replace f6 := f8; replace hT := hT.ext hx2; clear hm3 f8 hx2 hg6)
        | ((with_reducible refine at_cut ?_); refine w_nto0 Try.elTx _ _ k rfl rfl rfl rfl hl0.out hlml.out ?_; intro v26 r26)
        | ((with_reducible refine at_bi ?_); refine w_rlen Try.elTx _ rfl rfl rfl (r26.ext TxR.stays hT.oa.ext) ?_; rw [hl42.out])
        | fail) <;> (try simp only [Act.put, List.setIfInBounds_toArray, List.set_cons_zero, List.set_cons_succ]))
      replace r26 := hide_ r26
      have hTo := hide_ hT
      have hX := Ext.refl w3
      go_loopw [28] (fun i wr => ∃ j : Nat, i = .int .i64 j ∧ j ≤ k ∧ Hid (∀ x ∈ l.take j, x.id ≠ d.id) ∧ Ext w3 wr ∧ Fs wr g6 [.int .i64 d.id, .int .i64 d.fee]) (fun i _ => k - (RowKit.intOf i).toNat)
      case atStart => exact ⟨0, rfl, Nat.zero_le _, hide_ (by simp), hX, f6⟩
      case round =>
        clear hX f6 hT
        obtain ⟨j, rfl, hj, hun, hX, f6⟩ := hrel
        by_cases hgj : k ≤ j
        · obtain rfl : j = k := by omega
          have t4 : decide (j < j) = false := by simp
          have hnd2 := hide_ (hnds.out hun.out)
          have hT := hTo.out.ext hX
          clear hgj hj
          go_wp2_with ((first
            | (go_at_call 13; refine (PAdd_any (t := d) hT.a hok.out hdr.out).mono ?_; rintro e w7 ⟨F2, rfl, hP2, hU⟩; rw [← hst.out] at hP2; replace hT := hT.updA hU hP2; clear hP2 hU f6)
            | ((with_reducible refine at_load ?_); refine w_aload Try.stTx (.tmp 6) rfl rfl rfl f6 rfl ?_)
            | fail) <;> (try simp only [Act.put, List.setIfInBounds_toArray, List.set_cons_zero, List.set_cons_succ]))
          go_roundw
          case rel => exact ⟨j + 1, F2, by go_num, hlt'.out, hnd2, hT⟩
          case measure => have := hlt'.out; simp [RowKit.intOf]; omega
        have hlj : j < k := by omega
        have t4 : decide (j < k) = true := by simpa using hlj
        obtain ⟨u, hu0⟩ : ∃ u, l[j]? = some u := ⟨_, List.getElem?_eq_getElem (by have := hlml.out; omega)⟩
        have hu := hide_ (show (l.take k)[j]? = some u from by rw [List.getElem?_take_of_lt hlj]; exact hu0)
        have hlj' := hide_ hlj
        have hjb : j ≤ 16 := by omega
        cases c1 : (u.id == d.id)
        · have hun2 := hide_ (show ∀ x ∈ l.take (j + 1), x.id ≠ d.id from fun x hx => by
            rw [List.take_add_one, hu0] at hx
            rcases List.mem_append.1 hx with hx | hx
            · exact hun.out x hx
            · simp at hx; subst hx; simpa using c1)
          clear hgj hj hlj hu0 hun
          go_wp2_with ((first
            | ((with_reducible refine at_idx ?_); refine w_tidx Try.elTx _ _ j rfl rfl rfl rfl r26.out (hTo.out.oa.ext.trans hX) hu.out ?_; intro pa hrow; replace hrow := hide_ hrow)
            | ((with_reducible refine at_load ?_); refine w_pload Try.stTx _ rfl rfl rfl hrow.out rfl ?_)
            | ((with_reducible refine at_alloc ?_); refine w_alloc Try.stTx rfl rfl ?_; intro g8 w4 hg8 hx2 f8)
            | ((with_reducible refine at_store ?_); refine w_astore Try.stTx _ _ (us := [.int .i64 u.id, .int .i64 u.fee]) rfl rfl rfl rfl rfl f8 rfl rfl (by intro u hu; simp at hu; rcases hu with rfl | rfl <;> rfl) ?_; intro w5 hm3 f9; replace hx2 := hm3.after hx2 (fun i hi => by subst hi; exact hg8); replace f8 := f9; replace f6 := f6.ext hx2; replace hX := hX.trans hx2; clear hm3 f9 hx2 hg8)
            | ((with_reducible refine at_field ?_); refine w_field Try.stTx _ _ _ rfl rfl rfl (by omega) ?_)
            | ((with_reducible refine at_load ?_); refine w_fload (.tmp 32) rfl rfl rfl f8 rfl (agg_of (by kernel_rfl)) ?_)
            | ((with_reducible refine at_load ?_); refine w_fload (.tmp 34) rfl rfl rfl f6 rfl (agg_of (by kernel_rfl)) ?_)
            | fail) <;> (try simp only [Act.put, List.setIfInBounds_toArray, List.set_cons_zero, List.set_cons_succ]))
          go_roundw
          case rel => exact ⟨j + 1, by go_num, hlj'.out, hun2, hX, f6⟩
          case measure => have := hlj'.out; simp [RowKit.intOf]; omega
        · clear hgj hj hlj hu0 hun
          go_wp2_with ((first
            | ((with_reducible refine at_idx ?_); refine w_tidx Try.elTx _ _ j rfl rfl rfl rfl r26.out (hTo.out.oa.ext.trans hX) hu.out ?_; intro pa hrow; replace hrow := hide_ hrow)
            | ((with_reducible refine at_load ?_); refine w_pload Try.stTx _ rfl rfl rfl hrow.out rfl ?_)
            | ((with_reducible refine at_alloc ?_); refine w_alloc Try.stTx rfl rfl ?_; intro g8 w4 hg8 hx2 f8)
            | ((with_reducible refine at_store ?_); refine w_astore Try.stTx _ _ (us := [.int .i64 u.id, .int .i64 u.fee]) rfl rfl rfl rfl rfl f8 rfl rfl (by intro u hu; simp at hu; rcases hu with rfl | rfl <;> rfl) ?_; intro w5 hm3 f9; replace hx2 := hm3.after hx2 (fun i hi => by subst hi; exact hg8); replace f8 := f9; replace f6 := f6.ext hx2; replace hX := hX.trans hx2; clear hm3 f9 hx2 hg8)
            | ((with_reducible refine at_field ?_); refine w_field Try.stTx _ _ _ rfl rfl rfl (by omega) ?_)
            | ((with_reducible refine at_load ?_); refine w_fload (.tmp 32) rfl rfl rfl f8 rfl (agg_of (by kernel_rfl)) ?_)
            | ((with_reducible refine at_load ?_); refine w_fload (.tmp 34) rfl rfl rfl f6 rfl (agg_of (by kernel_rfl)) ?_)
            | fail) <;> (try simp only [Act.put, List.setIfInBounds_toArray, List.set_cons_zero, List.set_cons_succ]))
          go_ret
          exact Keep.intro ⟨rfl, hTo.out.oa.ext.trans hX⟩
    obtain rfl : k = l.length := by omega
    have t2 : decide (l.length < l.length) = false := by simp
    have hturn := hide_ (pst_turns (by have := hnd.out; rw [List.take_length] at this; exact this) (show l.length ≤ 16 by omega))
    obtain ⟨X, hX0⟩ : ∃ X, pst l l.length = X := ⟨_, rfl⟩
    have hokX := hide_ (show Mem.Ok X from hX0 ▸ pst_ok l l.length)
    rw [hX0] at hT hturn
    obtain ⟨n, hn⟩ : ∃ n, l.length = n := ⟨_, rfl⟩
    have hn' := hide_ hn
    have hn16 : n ≤ 16 := by omega
    clear hge hk hnd hX0
    rw [hn] at hturn t2
    go_wp2_with ((first
      | ((with_reducible refine at_bi ?_); refine w_rlen Try.elTx _ rfl rfl rfl (hl0.out.ext TxR.stays hT.oa.ext) ?_; rw [hn'.out])
      | fail) <;> (try simp only [Act.put, List.setIfInBounds_toArray, List.set_cons_zero, List.set_cons_succ]))
    go_loopw [9] (fun i wr => ∃ (m : Nat) (G : Nat → Prop) (z : Int), i = .int .i64 z ∧ z = (n : Int) - 1 - (m : Int) ∧ m ≤ n ∧ Two9 W wr F G p q X (pst l.reverse m)) (fun i _ => (RowKit.intOf i + 1).toNat)
    case atStart => exact ⟨0, _, _, rfl, by omega, Nat.zero_le _, by rw [pst_zero]; exact hT⟩
    case round =>
      clear hT
      obtain ⟨m, G, z, rfl, hz, hm, hT⟩ := hrel
      have hokm := hide_ (pst_ok l.reverse m)
      by_cases hge : n ≤ m
      · obtain rfl : m = n := by omega
        have t3 : decide (0 ≤ z) = false := decide_eq_false (by omega)
        rw [hturn.out] at hT hokm
        have hfew := hide_ hokX.out.few
        obtain ⟨Z, hZ⟩ : ∃ Z, Mem.pick X 3 [] = Z := ⟨_, rfl⟩
        have hZ' := hide_ hZ
        have tok1 : True := trivial
        have tok2 : True := trivial
        have tok3 : True := trivial
        clear hge hz hm hZ
        go_wp2_with (first
          | (go_at_call 12; have _t := tok1; refine (PList_any hT.a hfew.out).mono ?_; rintro e w5 ⟨v56, rfl, o56, hx⟩; replace o56 := o56.recs; replace hT := hT.ext hx; clear hx tok1)
          | (go_at_call 12; refine (PList_any hT.b hfew.out).mono ?_; rintro e w5 ⟨v58, rfl, o58, hx⟩; replace o58 := o58.recs; replace o56 := o56.ext TxR.stays hx; replace hT := hT.ext hx; clear hx)
          | (go_at_call 17; have _t := tok3; refine (Same_any (l := X) (m := X) o56 o58).mono ?_; rintro e w8 ⟨rfl, hx⟩; rw [decide_eq_true rfl]; replace hT := hT.ext hx; clear hx o56 o58 tok3)
          | (go_at_call 18; have _t := tok2; refine (PPick_any (many := 3) (skip := []) hT.a hfew.out (nilI _)).mono ?_; rintro e w7 ⟨v62, rfl, o62, hx⟩; rw [hZ'.out] at o62; replace o62 := o62.recs; replace hT := hT.ext hx; clear hx tok2)
          | (go_at_call 18; refine (PPick_any (many := 3) (skip := []) hT.b hfew.out (nilI _)).mono ?_; rintro e w7 ⟨v64, rfl, o64, hx⟩; rw [hZ'.out] at o64; replace o64 := o64.recs; replace o62 := o62.ext TxR.stays hx; replace hT := hT.ext hx; clear hx)
          | (go_at_call 17; refine (Same_any (l := Z) (m := Z) o62 o64).mono ?_; rintro e w8 ⟨rfl, hx⟩; rw [decide_eq_true rfl]; replace hT := hT.ext hx; clear hx o62 o64)
          | fail)
        go_ret
        exact Keep.intro ⟨rfl, hT.oa.ext⟩
      have hlt : m < n := by omega
      obtain rfl : z = ((n - 1 - m : Nat) : Int) := by omega
      have t3 : decide ((0 : Int) ≤ ((n - 1 - m : Nat) : Int)) = true := decide_eq_true (by omega)
      obtain ⟨d, hd0⟩ : ∃ d, l[n - 1 - m]? = some d := ⟨_, List.getElem?_eq_getElem (by omega)⟩
      have hdr := hide_ (hraws.out d (List.mem_of_getElem? hd0))
      have hst := hide_ (pst_succ (show l.reverse[m]? = some d from by rw [List.getElem?_reverse (by omega), hn]; exact hd0))
      obtain ⟨Y, hY0⟩ : ∃ Y, pst l.reverse m = Y := ⟨_, rfl⟩
      rw [hY0] at hT hst hokm
      have hd := hide_ hd0
      have hlt' := hide_ hlt
      obtain ⟨j, hj⟩ : ∃ j, n - 1 - m = j := ⟨_, rfl⟩
      rw [hj] at hd t3 ⊢
      have hj' := hide_ hj
      have hjb : j ≤ 16 := by omega
      clear hge hz hm hlt hd0 hY0 hj
      go_wp2_with ((first
        | (go_at_call 13; refine (PAdd_any (t := d) hT.b hokm.out hdr.out).mono ?_; rintro e w7 ⟨G2, rfl, hP2, hU⟩; rw [← hst.out] at hP2; replace hT := hT.updB hU hP2; clear hP2 hU)
        | ((with_reducible refine at_idx ?_); refine w_tidx Try.elTx _ _ j rfl rfl rfl rfl hl0.out hT.oa.ext hd.out ?_; intro pa hrow; replace hrow := hide_ hrow)
        | ((with_reducible refine at_load ?_); refine w_pload Try.stTx _ rfl rfl rfl hrow.out rfl ?_)
        | fail) <;> (try simp only [Act.put, List.setIfInBounds_toArray, List.set_cons_zero, List.set_cons_succ]))
      go_roundw
      case rel => exact ⟨m + 1, G2, (j : Int) - 1, by go_num, by have := hj'.out; have := hlt'.out; omega, hlt'.out, hT⟩
      case measure => have := hlt'.out; have := hj'.out; simp [RowKit.intOf]

set_option maxRecDepth 100000 in
theorem mempoolTurns_lifted (os : Os) (started : os.Started) (H : Type) (enc : TypeId × Value → H) :
    ReturnsInHanded {} Try.checked os 8 .any (Rows.mempoolTurnsSpec.pre6 enc Try.prog Try.f8 Rows.mempoolTurnsRow.domain false) (Rows.mempoolTurnsSpec.post enc Try.prog Try.f8 false true false false) := by
  refine law_lifted (s := Rows.mempoolTurnsSpec) (conds := Rows.mempoolTurnsRow.domain) Try.func8 (by kernel_rfl) rfl (fun H ds h => by
      rw [show Try.f8.params.size = 1 from rfl] at h
      match ds, h with
      | [d0], _ => rfl) rfl rfl (by decide +kernel) os started H enc
    (ChangeSpec.witness6 (enc := enc) (C := Try.checked) false ⟨#[], #[.slice none 0 0], []⟩ 8 (by kernel_rfl) (by kernel_rfl) (by kernel_rfl) (by kernel_rfl)) ?_
  intro W base args ds p hval hA hsz _
  have hp : Try.f8.params.toList = [23] := rfl
  rw [hp] at hA hsz
  obtain ⟨v0, d0, rfl, rfl, h0⟩ := trodAll_one hA
  obtain ⟨l0, k0, m0⟩ := arg_TxsL hsz (j := 0) rfl rfl (hval 0 23 v0 rfl rfl) h0
  exact mempoolTurns_law v0 l0 W k0

theorem mempoolTurns_holds : Rows.MempoolTurnsSaid :=
  OpenClaim.holds_of_wide 8 Try.f8 rfl rfl rfl rfl rfl rfl rfl ⟨rfl, rfl, rfl, rfl, rfl⟩ rfl rfl rfl rfl rfl (by kernel_rfl) Try.func8 (by kernel_rfl)
    (of_decide_eq_true (by kernel_rfl)) (by unfold Func.isWrapper; first | (rw [if_pos (by decide +kernel)]; kernel_rfl) | (rw [if_neg (by decide +kernel)]; exact ⟨rfl, rfl⟩))
    (fun os started H enc _ => mempoolTurns_lifted os started H enc)
#print axioms mempoolTurns_holds

end Go.Proofs.Ytdacclcaopmalaa
