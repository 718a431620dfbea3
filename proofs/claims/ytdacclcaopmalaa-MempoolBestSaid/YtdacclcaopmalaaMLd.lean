/- The statement MempoolBest: one that goes ahead of all that are there is taken, full or not, and stands first; one of a name that is there isn't, whatever it pays. No condition. -/
import Derived.Test.YtdacclcaopmalaaMLa
import Derived.Test.YtdacclcaopmalaaMemP
namespace Go.Proofs.Ytdacclcaopmalaa
set_option maxRecDepth 100000
open Go.RowKit Go.ChangeShapes Go.WideShapes Go.ChangeAt

def aheadB (K : List TxD) (t : TxD) : Bool := K.all fun x => TxD.less t x
theorem ahead_succ {K : List TxD} {t x : TxD} {m : Nat} (hx : K[m]? = some x) : aheadB (K.take (m + 1)) t = (aheadB (K.take m) t && TxD.less t x) := by
  unfold aheadB; rw [List.take_add_one, hx]; simp
theorem hasId_take {K : List TxD} {x : TxD} {n : Int} {m : Nat} (hx : K[m]? = some x) : Mem.hasId (K.take (m + 1)) n = (Mem.hasId (K.take m) n || (x.id == n)) := by
  unfold Mem.hasId; rw [List.take_add_one, hx]; simp

set_option maxRecDepth 100000 in
set_option maxHeartbeats 6400000 in
theorem mempoolBest_law (v0 : Value) (l : List TxD) (t : TxD) (W : World) (hl00 : Recs 2 TxR W v0 l) (ht0 : t.Raw) : Calls Try.prog 7 #[v0, .agg #[.int .i64 t.id, .int .i64 t.fee]] W fun e w' => e = .returned (.bool true) ∧ Ext W w' := by
  refine calls_keep ?_
  have hl0 := hide_ hl00
  have hmax := hl00.len_le
  unfold maxLen at hmax
  have hraws := hide_ (recs_rows hl00).2
  have htr := hide_ ht0
  clear hl00 ht0
  by_cases hbig : 60 < l.length
  · have t1 : decide ((60 : Int) < (l.length : Int)) = true := decide_eq_true (by omega)
    go_enter Try.func7, Try.ntmps7
    go_wp2_with ((first
      | ((with_reducible refine at_box ?_); refine w_box _ [.int .i64 t.id, .int .i64 t.fee] rfl rfl rfl rfl ?_; intro g3 w1 hg3 hX f3)
      | (go_at_call 10; refine (poolAlive_any _).mono ?_; rintro e w2 ⟨rfl, hx⟩; replace f3 := f3.ext hx; replace hX := hX.trans hx; clear hx)
      | ((with_reducible refine at_bi ?_); refine w_rlen Try.elTx _ rfl rfl rfl (hl0.out.ext TxR.stays hX) ?_)
      | fail) <;> (try simp only [Act.put, List.setIfInBounds_toArray, List.set_cons_zero, List.set_cons_succ]))
    go_ret
    exact Keep.intro ⟨rfl, hX⟩
  have t1 : decide ((60 : Int) < (l.length : Int)) = false := decide_eq_false (by omega)
  by_cases hRt : t.Right
  rotate_left
  · have hdec := hide_ (decide_eq_false hRt)
    go_enter Try.func7, Try.ntmps7
    go_wp2_with ((first
      | ((with_reducible refine at_box ?_); refine w_box _ [.int .i64 t.id, .int .i64 t.fee] rfl rfl rfl rfl ?_; intro g3 w1 hg3 hX f3)
      | (go_at_call 10; refine (poolAlive_any _).mono ?_; rintro e w2 ⟨rfl, hx⟩; replace f3 := f3.ext hx; replace hX := hX.trans hx; clear hx)
      | ((try refine w_yes _ _ _ rfl rfl rfl ?_); go_at_call 21; refine (refRight_any t _).mono ?_; rintro e w2 ⟨rfl, hx⟩; rw [hdec.out]; replace f3 := f3.ext hx; replace hX := hX.trans hx; clear hx)
      | ((with_reducible refine at_bi ?_); refine w_rlen Try.elTx _ rfl rfl rfl (hl0.out.ext TxR.stays hX) ?_)
      | ((with_reducible refine at_load ?_); (try refine w_yes _ _ _ rfl rfl rfl ?_); refine w_aload Try.stTx (.tmp 3) rfl rfl rfl f3 rfl ?_)
      | fail) <;> (try simp only [Act.put, List.setIfInBounds_toArray, List.set_cons_zero, List.set_cons_succ]))
    go_ret
    exact Keep.intro ⟨rfl, hX⟩
  have hdec := hide_ (decide_eq_true hRt)
  have hRt' := hide_ hRt
  clear hRt
  go_enter Try.func7, Try.ntmps7
  go_wp2_with ((first
    | (go_at_call 11; refine (PNew_any (w := _)).mono ?_; rintro e w1 ⟨p, rfl, hP, hx, hp⟩; have hg3p : g3 ≠ p := (by have := f3.lt; omega); replace f3 := f3.ext hx; have hO : Out W (fun k => k = p) w1 := ⟨hX.trans hx, fun k hk => hk ▸ Nat.le_trans hX.size hp⟩; clear hX hx hp)
    | ((with_reducible refine at_box ?_); refine w_box _ [.int .i64 t.id, .int .i64 t.fee] rfl rfl rfl rfl ?_; intro g3 w1 hg3 hX f3)
    | (go_at_call 10; refine (poolAlive_any _).mono ?_; rintro e w2 ⟨rfl, hx⟩; replace f3 := f3.ext hx; replace hX := hX.trans hx; clear hx)
    | ((try refine w_yes _ _ _ rfl rfl rfl ?_); go_at_call 21; refine (refRight_any t _).mono ?_; rintro e w2 ⟨rfl, hx⟩; rw [hdec.out]; replace f3 := f3.ext hx; replace hX := hX.trans hx; clear hx)
    | ((with_reducible refine at_bi ?_); refine w_rlen Try.elTx _ rfl rfl rfl (hl0.out.ext TxR.stays hX) ?_)
    | ((with_reducible refine at_load ?_); (try refine w_yes _ _ _ rfl rfl rfl ?_); refine w_aload Try.stTx (.tmp 3) rfl rfl rfl f3 rfl ?_)
    | ((with_reducible refine at_bi ?_); refine w_rlen Try.elTx _ rfl rfl rfl (hl0.out.ext TxR.stays hO.ext) ?_)
    | fail) <;> (try simp only [Act.put, List.setIfInBounds_toArray, List.set_cons_zero, List.set_cons_succ]))
  go_loopw [28] (fun i wr => ∃ (k : Nat) (F : Nat → Prop), i = .int .i64 k ∧ k ≤ l.length ∧ Pl F wr p (pst l k) ∧ Out W F wr ∧ Fs wr g3 [.int .i64 t.id, .int .i64 t.fee] ∧ ¬ F g3) (fun i _ => l.length - (RowKit.intOf i).toNat)
  case atStart => exact ⟨0, _, rfl, Nat.zero_le _, by rw [pst_zero]; exact hP, hO, f3, hg3p⟩
  case round =>
    clear hP hO f3 hg3p
    obtain ⟨k, F, rfl, hk, hP, hO, f3, n30⟩ := hrel
    have n3 := hide_ n30
    have hok := pst_ok l k
    by_cases hge : l.length ≤ k
    rotate_left
    · have hlt : k < l.length := by omega
      have t2 : decide (k < l.length) = true := by simpa using hlt
      obtain ⟨d, hd0⟩ : ∃ d, l[k]? = some d := ⟨_, List.getElem?_eq_getElem hlt⟩
      have hdr := hide_ (hraws.out d (List.mem_of_getElem? hd0))
      have hst := hide_ (pst_succ hd0)
      obtain ⟨X, hX0⟩ : ∃ X, pst l k = X := ⟨_, rfl⟩
      rw [hX0] at hP hok hst
      have hok' := hide_ hok
      have hd := hide_ hd0
      have hlt' := hide_ hlt
      have hkb : k ≤ 60 := by omega
      clear hge hlt hd0 hok hX0 n30
      go_wp2_with ((first
        | (go_at_call 13; refine (PAdd_any (t := d) hP hok'.out hdr.out).mono ?_; rintro e w7 ⟨F2, rfl, hP2, hU⟩; rw [← hst.out] at hP2; have n32 := hide_ (show ¬ F2 g3 from fun h => (hU.sub g3 h).elim n3.out (fun e => by have := f3.lt; omega)); replace f3 := f3.mod hU.mod n3.out; replace hO := hO.upd hU; replace hP := hP2; clear hP2 hU f7)
        | ((with_reducible refine at_idx ?_); refine w_tidx Try.elTx _ _ k rfl rfl rfl rfl hl0.out hO.ext hd.out ?_; intro pa hrow; replace hrow := hide_ hrow)
        | ((with_reducible refine at_load ?_); refine w_pload Try.stTx _ rfl rfl rfl hrow.out rfl ?_)
        | ((with_reducible refine at_alloc ?_); refine w_alloc Try.stTx rfl rfl ?_; intro g7 w2 hg7 hx2 f7)
        | ((with_reducible refine at_store ?_); refine w_astore Try.stTx _ _ (us := [.int .i64 d.id, .int .i64 d.fee]) rfl rfl rfl rfl rfl f7 rfl rfl (by intro u hu; simp at hu; rcases hu with rfl | rfl <;> rfl) ?_; intro w3 hm3 f8; replace hx2 := hm3.after hx2 (fun i hi => by subst hi; exact hg7); replace f7 := f8; replace f3 := f3.ext hx2; replace hP := hP.ext hx2; replace hO := hO.extend hx2; clear hm3 f8 hx2 hg7)
        | ((with_reducible refine at_load ?_); refine w_aload Try.stTx (.tmp 7) rfl rfl rfl f7 rfl ?_)
        | fail) <;> (try simp only [Act.put, List.setIfInBounds_toArray, List.set_cons_zero, List.set_cons_succ]))
      go_roundw
      case rel => exact ⟨k + 1, F2, by go_num, hlt'.out, hP, hO, f3, n32.out⟩
      case measure => have := hlt'.out; simp [RowKit.intOf]; omega
    obtain rfl : k = l.length := by omega
    have t2 : decide (l.length < l.length) = false := by simp
    obtain ⟨K, hK⟩ : ∃ K, pst l l.length = K := ⟨_, rfl⟩
    rw [hK] at hP hok
    have hfew := hide_ hok.few
    have hok2 := hide_ hok
    have hraw8 := hide_ hP.raw
    clear hge hK hok hk n30
    go_wp2_with ((first
      | (go_at_call 12; refine (PList_any hP hfew.out).mono ?_; rintro e w5 ⟨v8, rfl, hr8, hx⟩; have h8o := hide_ (show ∀ q, v8.ownBlock = some q → ¬ F q from fun q hq h => by have h1 := hr8.new q hq; have h2 := hP.lt q h; omega); replace f3 := f3.ext hx; replace hP := hP.ext hx; replace hO := hO.extend hx; clear hx)
      | ((with_reducible refine at_bi ?_); refine w_rlen Try.elTx _ rfl rfl rfl hr8.recs ?_)
      | fail) <;> (try simp only [Act.put, List.setIfInBounds_toArray, List.set_cons_zero, List.set_cons_succ]))
    have hPb := hide_ hP
    have hOb := hide_ hO
    have hr8a := hide_ hr8
    have hr8c := hide_ hr8.recs
    have hk16 := hfew.out
    have hX := Ext.refl w5
    go_loopw [9, 10, 40] (fun u9 u10 i wr => ∃ m : Nat, i = .int .i64 m ∧ u9 = .bool (aheadB (K.take m) t) ∧ u10 = .bool (Mem.hasId (K.take m) t.id) ∧ m ≤ K.length ∧ Ext w5 wr ∧ Fs wr g3 [.int .i64 t.id, .int .i64 t.fee]) (fun _ _ i _ => K.length - (RowKit.intOf i).toNat)
    case atStart => exact ⟨0, rfl, by simp [aheadB], by simp [Mem.hasId], Nat.zero_le _, hX, f3⟩
    case round =>
      clear hX f3 hP hO hr8
      obtain ⟨m, rfl, rfl, rfl, hm, hX, f3⟩ := hrel
      by_cases hge : K.length ≤ m
      rotate_left
      · have hlt : m < K.length := by omega
        have t3 : decide (m < K.length) = true := by simpa using hlt
        obtain ⟨x, hx0⟩ : ∃ x, K[m]? = some x := ⟨_, List.getElem?_eq_getElem hlt⟩
        have h1 := ahead_succ (t := t) hx0
        have h2 := hasId_take (n := t.id) hx0
        obtain ⟨fb, hfb⟩ : ∃ b, aheadB (K.take m) t = b := ⟨_, rfl⟩
        obtain ⟨tb, htb⟩ : ∃ b, Mem.hasId (K.take m) t.id = b := ⟨_, rfl⟩
        rw [hfb] at h1 ⊢
        rw [htb] at h2 ⊢
        have hx' := hide_ hx0
        have hlt' := hide_ hlt
        clear hge hlt hx0 hfb htb
        cases fb <;> cases tb
        all_goals
          have h1' := hide_ h1
          have h2' := hide_ h2
          clear h1 h2
          go_wp2_with ((first
            | ((try refine w_yes _ _ _ rfl rfl rfl ?_); go_at_call 20; refine (refLess_any t x _).mono ?_; rintro e w4 ⟨rfl, hx⟩; replace f3 := f3.ext hx; replace f12 := f12.ext hx; replace hX := hX.trans hx; clear hx)
            | ((with_reducible refine at_idx ?_); refine w_tidx Try.elTx _ _ m rfl rfl rfl rfl hr8c.out hX hx'.out ?_; intro pa hrow; replace hrow := hide_ hrow)
            | ((with_reducible refine at_load ?_); refine w_pload Try.stTx _ rfl rfl rfl hrow.out rfl ?_)
            | ((with_reducible refine at_alloc ?_); refine w_alloc Try.stTx rfl rfl ?_; intro g12 w2 hg12 hx2 f12)
            | ((with_reducible refine at_store ?_); refine w_astore Try.stTx _ _ (us := [.int .i64 x.id, .int .i64 x.fee]) rfl rfl rfl rfl rfl f12 rfl rfl (by intro u hu; simp at hu; rcases hu with rfl | rfl <;> rfl) ?_; intro w3 hm3 f8; replace hx2 := hm3.after hx2 (fun i hi => by subst hi; exact hg12); replace f12 := f8; replace f3 := f3.ext hx2; replace hX := hX.trans hx2; clear hm3 f8 hx2 hg12)
            | ((with_reducible refine at_field ?_); (try refine w_yes _ _ _ rfl rfl rfl ?_); refine w_field Try.stTx _ _ _ rfl rfl rfl (by omega) ?_)
            | ((with_reducible refine at_load ?_); (try refine w_yes _ _ _ rfl rfl rfl ?_); refine w_aload Try.stTx (.tmp 3) rfl rfl rfl f3 rfl ?_)
            | ((with_reducible refine at_load ?_); (try refine w_yes _ _ _ rfl rfl rfl ?_); refine w_aload Try.stTx (.tmp 12) rfl rfl rfl f12 rfl ?_)
            | ((with_reducible refine at_load ?_); (try refine w_yes _ _ _ rfl rfl rfl ?_); refine w_fload (.tmp 52) rfl rfl rfl f12 rfl (agg_of (by kernel_rfl)) ?_)
            | ((with_reducible refine at_load ?_); (try refine w_yes _ _ _ rfl rfl rfl ?_); refine w_fload (.tmp 54) rfl rfl rfl f3 rfl (agg_of (by kernel_rfl)) ?_)
            | fail) <;> (try simp only [Act.put, List.setIfInBounds_toArray, List.set_cons_zero, List.set_cons_succ]))
          go_roundw
          case rel => exact ⟨m + 1, by go_num, by rw [h1'.out]; simp, by rw [h2'.out]; simp, hlt'.out, hX, f3⟩
          case measure => have := hlt'.out; simp [RowKit.intOf]; omega
      obtain rfl : m = K.length := by omega
      have t3 : decide (K.length < K.length) = false := by simp
      rw [List.take_length]
      have hP := hPb.out.ext hX
      have hO := hOb.out.extend hX
      have hr8b := hide_ (hr8a.out.ext hX)
      have hple := Mem.plc_le K t
      cases htb : Mem.hasId K t.id
      · cases hfb : aheadB K t
        · by_cases h16 : 16 ≤ Mem.plc K t
          · have hR := hide_ (Mem.add_c2 hRt'.out (.inr h16))
            have hfew2 := hfew
            have hKl := hide_ (show K.length = 16 from by omega)
            have t5 : ((K.length : Int) == 16) = true := by rw [hKl.out]; rfl
            clear hge hm htb hfb h16 hple
            go_wp2_with ((first
              | (go_at_call 13; refine (PAdd_any (t := t) hP hok2.out htr.out).mono ?_; rintro e w7 ⟨F2, rfl, hP2, hU⟩; rw [hR.out] at hP2; rw [hR.out]; replace hr8 := hr8b.out.mod hU.mod h8o.out; replace f3 := f3.mod hU.mod n3.out; replace hO := hO.upd hU; replace hP := hP2; clear hP2 hU)
              | (go_at_call 12; refine (PList_any hP hfew2.out).mono ?_; rintro e w5 ⟨v14, rfl, o14, hx⟩; have r14 := o14.recs; replace hr8 := hr8.ext hx; replace f3 := f3.ext hx; replace hO := hO.extend hx; clear hx hP o14)
              | ((try refine w_yes _ _ _ rfl rfl rfl ?_); go_at_call 17; refine (Same_any (l := K) (m := K) r14 hr8.recs).mono ?_; rintro e w8 ⟨rfl, hx⟩; rw [decide_eq_true rfl]; replace hO := hO.extend hx; clear hx)
              | ((with_reducible refine at_load ?_); (try refine w_yes _ _ _ rfl rfl rfl ?_); refine w_aload Try.stTx (.tmp 3) rfl rfl rfl f3 rfl ?_)
              | ((with_reducible refine at_bi ?_); (try refine w_yes _ _ _ rfl rfl rfl ?_); refine w_rlen Try.elTx _ rfl rfl rfl hr8.recs ?_)
              | fail) <;> (try simp only [Act.put, List.setIfInBounds_toArray, List.set_cons_zero, List.set_cons_succ]))
            go_ret
            exact Keep.intro ⟨rfl, hO.ext⟩
          · have hR := hide_ (Mem.add_c3 hRt'.out (show ¬ (Mem.hasId K t.id = true ∨ 16 ≤ Mem.plc K t) from by rw [htb]; simp; omega))
            obtain ⟨K2, hK2⟩ : ∃ K2, (Mem.insAt K (Mem.plc K t) t).take 16 = K2 := ⟨_, rfl⟩
            rw [hK2] at hR
            have hfew2 := hide_ (show K2.length ≤ 16 from by rw [← hK2, List.length_take]; omega)
            clear hge hm htb hfb h16 hple hK2
            go_wp2_with ((first
              | (go_at_call 13; refine (PAdd_any (t := t) hP hok2.out htr.out).mono ?_; rintro e w7 ⟨F2, rfl, hP2, hU⟩; rw [hR.out] at hP2; rw [hR.out]; replace hr8 := hr8b.out.mod hU.mod h8o.out; replace f3 := f3.mod hU.mod n3.out; replace hO := hO.upd hU; replace hP := hP2; clear hP2 hU)
              | (go_at_call 12; refine (PList_any hP hfew2.out).mono ?_; rintro e w5 ⟨v14, rfl, o14, hx⟩; have r14 := o14.recs; replace hr8 := hr8.ext hx; replace f3 := f3.ext hx; replace hO := hO.extend hx; clear hx hP o14)
              | ((with_reducible refine at_load ?_); (try refine w_yes _ _ _ rfl rfl rfl ?_); refine w_aload Try.stTx (.tmp 3) rfl rfl rfl f3 rfl ?_)
              | fail) <;> (try simp only [Act.put, List.setIfInBounds_toArray, List.set_cons_zero, List.set_cons_succ]))
            go_ret
            exact Keep.intro ⟨rfl, hO.ext⟩
        · have hp0 : Mem.plc K t = 0 := first_plc (by simpa [aheadB] using hfb)
          have hR := Mem.add_c3 hRt'.out (show ¬ (Mem.hasId K t.id = true ∨ 16 ≤ Mem.plc K t) from by rw [htb]; simp; omega)
          rw [hp0, show (Mem.insAt K 0 t).take 16 = t :: K.take 15 from rfl] at hR
          replace hR := hide_ hR
          have hfew2 := hide_ (show (t :: K.take 15).length ≤ 16 from by rw [List.length_cons, List.length_take]; omega)
          obtain ⟨K2, hK2⟩ : ∃ K2, t :: K.take 15 = K2 := ⟨_, rfl⟩
          have h0K := hide_ (show K2[0]? = some t from by rw [← hK2]; rfl)
          have hmin := hide_ (show (K2.length : Int) = min 16 ((K.length : Int) + 1) from by rw [← hK2, List.length_cons, List.length_take]; omega)
          rw [hK2] at hR hfew2
          clear hge hm htb hfb hp0 hple hK2
          go_wp2_with ((first
            | (go_at_call 13; refine (PAdd_any (t := t) hP hok2.out htr.out).mono ?_; rintro e w7 ⟨F2, rfl, hP2, hU⟩; rw [hR.out] at hP2; rw [hR.out]; replace hr8 := hr8b.out.mod hU.mod h8o.out; replace f3 := f3.mod hU.mod n3.out; replace hO := hO.upd hU; replace hP := hP2; clear hP2 hU)
            | (go_at_call 12; refine (PList_any hP hfew2.out).mono ?_; rintro e w5 ⟨v14, rfl, o14, hx⟩; have r14 := o14.recs; replace hr8 := hr8.ext hx; replace f3 := f3.ext hx; replace hO := hO.extend hx; clear hx hP o14)
            | ((with_reducible refine at_load ?_); (try refine w_yes _ _ _ rfl rfl rfl ?_); refine w_aload Try.stTx (.tmp 3) rfl rfl rfl f3 rfl ?_)
            | fail) <;> (try simp only [Act.put, List.setIfInBounds_toArray, List.set_cons_zero, List.set_cons_succ]))
          refine wp_region_phx (by kernel_rfl) ?_; intro wd hxd; have F3 := f3.ext hxd; have J14 := r14.ext TxR.stays hxd; have J8 := hr8.recs.ext TxR.stays hxd
          refine Ph.rest 0 19 (by kernel_rfl) ?_
          refine LinL.step (s := (.val (.int .i64 0))) [(13, none)] rfl (by kernel_rfl) (op_out 13 (.int .i64 0) rfl (.inl rfl) rfl) ?_
          refine LinL.step (s := (.val (.bool true))) [(73, some 0)] rfl (by kernel_rfl) (op_runs rfl fun σ w' hx hg => ⟨(.bool true), by have h73 : σ.tmps.getD 73 undef = .int .i64 0 := hg.1; unfold Runs execOp; simp [Act.eval, h73, go_sem], rfl⟩) ?_
          refine LinL.step (s := (.val (.bool true))) [(74, some 0)] rfl (by kernel_rfl) (op_copy 74 0 (.val (.bool true)) rfl (.inl rfl) rfl) ?_
          refine LinL.step (s := (.val (v14))) [(14, none), (75, some 0)] rfl (by kernel_rfl) (op_yes (reads := [(14, none)]) 2 75 0 true rfl rfl rfl (op_out 14 (v14) rfl (.inl rfl) rfl)) ?_
          refine LinL.step (s := (Sp.recp 2 TxR TxR.stays t)) [(76, some 0), (75, some 1)] rfl (by kernel_rfl) (op_yes (reads := [(76, some 0)]) 2 75 1 true rfl rfl rfl (op_runs rfl fun σ w' hx hg => rridx (ρ := σ.eval) (w := w') TxR.stays Try.elTx (.tmp 76) (.const (.int .i64 0)) 0 rfl hg.1 rfl (J14.ext TxR.stays hx) h0K.out)) ?_
          refine LinL.step (s := (.val (.agg #[.int .i64 t.id, .int .i64 t.fee]))) [(77, some 0), (75, some 2)] rfl (by kernel_rfl) (op_yes (reads := [(77, some 0)]) 2 75 2 true rfl rfl rfl (op_runs rfl fun σ w' hx hg => by obtain ⟨p', row, h1, h2, h3, h4, _⟩ := hg.1; subst h4; exact ⟨_, runs_pload (ρ := σ.eval) (w := w') Try.stTx (.tmp 77) rfl h1 h2 h3, rfl⟩)) ?_
          refine LinL.step (s := (.val (.agg #[.int .i64 t.id, .int .i64 t.fee]))) [(3, none), (75, some 3)] rfl (by kernel_rfl) (op_yes (reads := [(3, none)]) 2 75 3 true rfl rfl rfl (op_runs rfl fun σ w' hx hg => ⟨_, runs_aload (ρ := σ.eval) (w := w') Try.stTx (.tmp 3) rfl hg.1 (F3.ext hx) rfl, rfl⟩)) ?_
          refine LinL.step (s := (.val (.bool true))) [(78, some 1), (79, some 0), (75, some 4)] rfl (by kernel_rfl) (op_yes (reads := [(78, some 1), (79, some 0)]) 2 75 4 true rfl rfl rfl (op_runs rfl fun σ w' hx hg => ⟨_, runs_txeq (ρ := σ.eval) (w := w') (.tmp 78) (.tmp 79) t t rfl hg.1 hg.2.1, by rw [decide_eq_true rfl]; rfl⟩)) ?_
          refine LinL.step (s := (.val (.bool true))) [(75, some 5), (80, some 0)] rfl (by kernel_rfl) (op_runs rfl fun σ w' hx hg => ⟨_, runs_pick_t (ρ := σ.eval) (w := w') (.tmp 75) (.tmp 80) (.const (.bool false)) rfl hg.1 hg.2.1, rfl⟩) ?_
          refine LinL.step (s := (.val (.bool true))) [(81, some 0)] rfl (by kernel_rfl) (op_copy 81 0 (.val (.bool true)) rfl (.inl rfl) rfl) ?_
          refine LinL.step (s := (.val (v14))) [(14, none), (82, some 0)] rfl (by kernel_rfl) (op_yes (reads := [(14, none)]) 9 82 0 true rfl rfl rfl (op_out 14 (v14) rfl (.inl rfl) rfl)) ?_
          refine LinL.step (s := (.val (.int .i64 (K2.length : Nat)))) [(83, some 0), (82, some 1)] rfl (by kernel_rfl) (op_yes (reads := [(83, some 0)]) 9 82 1 true rfl rfl rfl (op_runs rfl fun σ w' hx hg => ⟨_, runs_rlen (ρ := σ.eval) (w := w') Try.elTx (.tmp 83) rfl hg.1 (J14.ext TxR.stays hx), rfl⟩)) ?_
          refine LinL.step (s := (.val (v8))) [(8, none), (82, some 2)] rfl (by kernel_rfl) (op_yes (reads := [(8, none)]) 9 82 2 true rfl rfl rfl (op_out 8 (v8) rfl (.inl rfl) rfl)) ?_
          refine LinL.step (s := (.val (.int .i64 (K.length : Nat)))) [(85, some 0), (82, some 3)] rfl (by kernel_rfl) (op_yes (reads := [(85, some 0)]) 9 82 3 true rfl rfl rfl (op_runs rfl fun σ w' hx hg => ⟨_, runs_rlen (ρ := σ.eval) (w := w') Try.elTx (.tmp 85) rfl hg.1 (J8.ext TxR.stays hx), rfl⟩)) ?_
          refine LinL.step (s := (.val (.int .i64 ((K.length : Int) + 1)))) [(86, some 0), (82, some 4)] rfl (by kernel_rfl) (op_yes (reads := [(86, some 0)]) 9 82 4 true rfl rfl rfl (op_runs rfl fun σ w' hx hg => ⟨_, runs_add (ρ := σ.eval) (w := w') (.tmp 86) (.const (.int .i64 1)) (((K.length : Int) + 1)) (by omega) (by omega) rfl hg.1 rfl, rfl⟩)) ?_
          refine LinL.step (s := (.val (.int .i64 (K2.length : Nat)))) [(87, some 0), (82, some 5)] rfl (by kernel_rfl) (op_yes (reads := [(87, some 0)]) 9 82 5 true rfl rfl rfl (op_runs rfl fun σ w' hx hg => ⟨_, runs_min (ρ := σ.eval) (w := w') (.const (.int .i64 16)) (.tmp 87) ((K2.length : Nat)) (by exact hmin.out) rfl rfl hg.1, rfl⟩)) ?_
          refine LinL.step (s := (.val (.bool true))) [(84, some 4), (88, some 0), (82, some 6)] rfl (by kernel_rfl) (op_yes (reads := [(84, some 4), (88, some 0)]) 9 82 6 true rfl rfl rfl (op_runs rfl fun σ w' hx hg => ⟨(.bool true), by have h84 : σ.tmps.getD 84 undef = .int .i64 (K2.length : Nat) := hg.1; have h88 : σ.tmps.getD 88 undef = .int .i64 (K2.length : Nat) := hg.2.1; unfold Runs execOp; simp [Act.eval, h84, h88, go_sem], rfl⟩)) ?_
          refine LinL.step (s := (.val (.bool true))) [(82, some 7), (89, some 0)] rfl (by kernel_rfl) (op_runs rfl fun σ w' hx hg => ⟨_, runs_pick_t (ρ := σ.eval) (w := w') (.tmp 82) (.tmp 89) (.const (.bool false)) rfl hg.1 hg.2.1, rfl⟩) ?_
          refine LinL.step (s := (.val (.bool true))) [(90, some 0)] rfl (by kernel_rfl) (op_copy 90 0 (.val (.bool true)) rfl (.inr rfl) rfl) ?_
          intro wN hxN
          simp only [Fin', Sp.recp, List.reverse_cons, List.reverse_nil, List.nil_append, List.cons_append, List.drop_zero, List.take_succ_cons, List.take_zero]
          intro q77 hq77
          simp only [Act.put, List.setIfInBounds_toArray, List.set_cons_zero, List.set_cons_succ]
          replace hO := hO.extend (hxd.trans hxN)
          go_wp2
          go_ret
          exact Keep.intro ⟨rfl, hO.ext⟩
      · have hR := hide_ (Mem.add_c2 hRt'.out (.inl htb))
        have hfew2 := hfew
        clear hge hm htb hple
        go_wp2_with ((first
          | (go_at_call 13; refine (PAdd_any (t := t) hP hok2.out htr.out).mono ?_; rintro e w7 ⟨F2, rfl, hP2, hU⟩; rw [hR.out] at hP2; rw [hR.out]; replace hr8 := hr8b.out.mod hU.mod h8o.out; replace f3 := f3.mod hU.mod n3.out; replace hO := hO.upd hU; replace hP := hP2; clear hP2 hU)
          | (go_at_call 12; refine (PList_any hP hfew2.out).mono ?_; rintro e w5 ⟨v14, rfl, o14, hx⟩; have r14 := o14.recs; replace hr8 := hr8.ext hx; replace f3 := f3.ext hx; replace hO := hO.extend hx; clear hx hP o14)
          | ((try refine w_yes _ _ _ rfl rfl rfl ?_); go_at_call 17; refine (Same_any (l := K) (m := K) r14 hr8.recs).mono ?_; rintro e w8 ⟨rfl, hx⟩; rw [decide_eq_true rfl]; replace hO := hO.extend hx; clear hx)
          | ((with_reducible refine at_load ?_); (try refine w_yes _ _ _ rfl rfl rfl ?_); refine w_aload Try.stTx (.tmp 3) rfl rfl rfl f3 rfl ?_)
          | fail) <;> (try simp only [Act.put, List.setIfInBounds_toArray, List.set_cons_zero, List.set_cons_succ]))
        go_ret
        exact Keep.intro ⟨rfl, hO.ext⟩

set_option maxRecDepth 100000 in
theorem mempoolBest_lifted (os : Os) (started : os.Started) (H : Type) (enc : TypeId × Value → H) :
    ReturnsInHanded {} Try.checked os 7 .any (Rows.mempoolBestSpec.pre6 enc Try.prog Try.f7 Rows.mempoolBestRow.domain false) (Rows.mempoolBestSpec.post enc Try.prog Try.f7 false true false false) := by
  refine law_lifted (s := Rows.mempoolBestSpec) (conds := Rows.mempoolBestRow.domain) Try.func7 (by kernel_rfl) rfl (fun H ds h => by
      rw [show Try.f7.params.size = 2 from rfl] at h
      match ds, h with
      | [d0, d1], _ => rfl) rfl rfl (by decide +kernel) os started H enc
    (ChangeSpec.witness6 (enc := enc) (C := Try.checked) false ⟨#[], #[.slice none 0 0, .agg #[.int .i64 0, .int .i64 0]], []⟩ 8 (by kernel_rfl) (by kernel_rfl) (by kernel_rfl) (by kernel_rfl)) ?_
  intro W base args ds p hval hA hsz _
  have hp : Try.f7.params.toList = [23, 30] := rfl
  rw [hp] at hA hsz
  obtain ⟨v0, v1, d0, d1, p0, p1, rfl, rfl, rfl, h0, h1⟩ := trodAll_two hA
  obtain ⟨l0, k0, m0⟩ := arg_TxsL hsz (j := 0) rfl rfl (hval 0 23 v0 rfl rfl) h0
  obtain ⟨row1, t1, rfl, n1, rfl, a1⟩ := arg_Tx hsz (j := 1) rfl rfl (hval 1 30 v1 rfl rfl) h1
  exact mempoolBest_law v0 l0 t1 W k0 a1

theorem mempoolBest_holds : Rows.MempoolBestSaid :=
  OpenClaim.holds_of_wide 7 Try.f7 rfl rfl rfl rfl rfl rfl rfl ⟨rfl, rfl, rfl, rfl, rfl⟩ rfl rfl rfl rfl rfl (by kernel_rfl) Try.func7 (by kernel_rfl)
    (of_decide_eq_true (by kernel_rfl)) (by unfold Func.isWrapper; first | (rw [if_pos (by decide +kernel)]; kernel_rfl) | (rw [if_neg (by decide +kernel)]; exact ⟨rfl, rfl⟩))
    (fun os started H enc _ => mempoolBest_lifted os started H enc)
#print axioms mempoolBest_holds

end Go.Proofs.Ytdacclcaopmalaa
