/- The statement TxBack: transactions are written and read back, bytes read are written back; of two unlike transactions just one goes ahead. No condition. -/
import Derived.Test.YtabbgnlabiakoaaXTells
import Derived.Test.YtabbgnlabiakoaaArgB
import Derived.Test.YtabbgnlabiakoaaLitStep
import Derived.Test.YtabbgnlabiakoaaAt
namespace Go.Proofs.Ytabbgnlabiakoaa
open Go.RowKit Go.ChangeShapes Go.WideShapes Go.ChangeAt

theorem lsB_len {l : List TxD} (h : LsOk l) : (lsB l).length ≤ 70 := by
  have := nuL_len (lsNums l) fun x hx => by have := h.rdb x hx; omega
  have h2 : (lsNums l).length = 1 + 2 * l.length := by simp [lsNums, txNums_len]; omega
  have := h.len
  unfold lsB; omega

set_option maxRecDepth 100000 in
set_option maxHeartbeats 6400000 in
theorem txBack_law (v : Value) (l : List TxD) (vb : Value) (b : List Nat) (W : World) (hl0 : Recs 2 TxR W v l) (hb : Byt W vb b) (hb256' : ∀ x ∈ b, x < 256) (hblen' : b.length ≤ 140737488351232) :
    Calls Try.prog 7 #[v, vb] W fun e w' => e = .returned (.bool true) ∧ Ext W w' := by
  refine calls_keep ?_
  have hl := hide_ hl0
  have hb256 := hide_ hb256'
  have hblen := hide_ (show b.length ≤ 140737488355328 from by omega)
  have happ := hide_ (show ([] : List Nat).length + b.length ≤ 140737488355328 from by simp; omega)
  clear hl0 hb256' hblen'
  by_cases hbig : 10 < l.length
  · have t0 : decide ((10 : Int) < (l.length : Int)) = true := by simp; omega
    clear hbig
    go_enter Try.func7, Try.ntmps7
    go_wp2_with ((first
      | (go_at_call 11; refine (alive_any _).mono ?_; rintro e w1 ⟨rfl, hX⟩)
      | ((with_reducible refine at_bi ?_); refine w_rlen Try.elTx _ rfl rfl (v := v) rfl (hl.out.ext TxR.stays hX) ?_)
      | fail) <;> (try simp only [Act.put, List.setIfInBounds_toArray, List.set_cons_zero, List.set_cons_succ]))
    go_ret
    exact Keep.intro ⟨rfl, hX⟩
  have t0 : decide ((10 : Int) < (l.length : Int)) = false := by simp; omega
  have h10 : l.length ≤ 10 := by omega
  clear hbig
  by_cases hok : LsOk l
  · have E1 := hide_ (show tlE l = 0 from if_pos hok)
    have E2 := hide_ (show tlB l = lsB l from if_pos hok)
    have h256 := hide_ (nuL_lt (lsNums l))
    have hl5 := hide_ (show (lsB l).length ≤ 140737488355328 from by have := lsB_len hok; omega)
    have hrl := hide_ ((rdLs_iff (nuL_lt (lsNums l)) l).2 ⟨hok, rfl⟩)
    clear hok
    go_enter Try.func7, Try.ntmps7
    go_wp2_with ((first
      | (go_at_call 11; refine (alive_any _).mono ?_; rintro e w1 ⟨rfl, hX⟩)
      | (go_at_call 18; refine (TList_any (v := v) (hl.out.ext TxR.stays hX)).mono ?_; rintro e w2 ⟨v5, rfl, o5, hx⟩; rw [E1.out]; rw [E2.out] at o5; have b5 := o5.byt; replace hX := hX.trans hx; clear o5 hx)
      | (go_at_call 21; refine (TReadList_any h256.out hl5.out b5).mono ?_; rintro e w3 ⟨v7, rfl, hx, o7⟩; rw [hrl.out] at o7 ⊢; have r7 : Recs 2 TxR _ v7 l := o7.recs; clear o7 b5; replace hX := hX.trans hx; clear hx)
      | (go_at_call 23; refine (Same_any r7 (hl.out.ext TxR.stays hX)).mono ?_; rintro e w4 ⟨rfl, hx⟩; replace hX := hX.trans hx; clear hx r7)
      | ((with_reducible refine at_bi ?_); refine w_rlen Try.elTx _ rfl rfl (v := v) rfl (hl.out.ext TxR.stays hX) ?_)
      | fail) <;> (try simp only [Act.put, List.setIfInBounds_toArray, List.set_cons_zero, List.set_cons_succ]))
    clear E1 E2 h256 hl5 hrl
    go_loopw [44] (fun i wr => ∃ k : Nat, i = .int .i64 k ∧ k ≤ l.length ∧ Ext W wr) (fun i _ => l.length - (intOf i).toNat)
    case atStart => exact ⟨0, rfl, Nat.zero_le _, hX⟩
    case round =>
      clear hX
      obtain ⟨k, rfl, hk, hX⟩ := hrel
      by_cases hge : l.length ≤ k
      · have t1 : decide (k < l.length) = false := by simpa using hge
        clear hge
        cases hrb0 : rdLs b with
        | none =>
          have hrb := hide_ hrb0
          clear hrb0
          go_wp2_with ((first
            | (go_at_call 21; refine (TReadList_any hb256.out hblen.out b2).mono ?_; rintro e w3 ⟨v13, rfl, hx, o13⟩; rw [hrb.out] at o13 ⊢; have r13 := o13.recs; clear o13 b2; replace hX := hX.trans hx; clear hx)
            | ((with_reducible refine at_lit ?_); refine w_bempty (o := ⟨some 82, _, _, _, _, _⟩) rfl rfl ?_; intro vn wn B hB1 hBl hxn o1)
            | ((with_reducible refine at_bi ?_); refine appb (o := ⟨some 84, _, _, _, _, _⟩) _ _ rfl rfl rfl rfl o1 ((hb.ext hX).ext hxn) happ.out hBl ?_; intro vc wa o2 hba hga; rw [List.nil_append] at o2; replace hX := hX.trans (hxn.trans' (hba.mono hB1)); have b2 := o2.byt; clear o1 o2 hba hga hxn hB1 hBl)
            | ((with_reducible refine at_bi ?_); refine w_rlen Try.elTx _ rfl rfl (v := v13) rfl r13 ?_)
            | fail) <;> (try simp only [Act.put, List.setIfInBounds_toArray, List.set_cons_zero, List.set_cons_succ]))
          go_ret
          exact Keep.intro ⟨rfl, hX⟩
        | some m =>
          obtain ⟨hok, hbm⟩ := (rdLs_iff hb256.out m).1 hrb0
          have F1 := hide_ (show tlE m = 0 from if_pos hok)
          have F2 := hide_ (show tlB m = b from by rw [tlB, if_pos hok, hbm])
          have hrb := hide_ hrb0
          clear hrb0 hok hbm
          go_wp2_with ((first
            | (go_at_call 21; refine (TReadList_any hb256.out hblen.out b2).mono ?_; rintro e w3 ⟨v13, rfl, hx, o13⟩; rw [hrb.out] at o13 ⊢; have r13 := o13.recs; clear o13 b2; replace hX := hX.trans hx; clear hx)
            | (go_at_call 18; refine (TList_any (v := v13) (l := m) r13).mono ?_; rintro e w2 ⟨v15, rfl, o15, hx⟩; rw [F1.out]; rw [F2.out] at o15; have b15 := o15.byt; replace hX := hX.trans hx; clear o15 hx r13)
            | ((with_reducible refine at_lit ?_); refine w_bempty (o := ⟨some 82, _, _, _, _, _⟩) rfl rfl ?_; intro vn wn B hB1 hBl hxn o1)
            | ((with_reducible refine at_bi ?_); refine appb (o := ⟨some 84, _, _, _, _, _⟩) _ _ rfl rfl rfl rfl o1 ((hb.ext hX).ext hxn) happ.out hBl ?_; intro vc wa o2 hba hga; rw [List.nil_append] at o2; replace hX := hX.trans (hxn.trans' (hba.mono hB1)); have b2 := o2.byt; clear o1 o2 hba hga hxn hB1 hBl)
            | ((with_reducible refine at_conv ?_); (try refine w_yes _ _ _ rfl rfl rfl ?_); refine w_str _ rfl rfl (v := v15) rfl b15 ?_)
            | ((with_reducible refine at_conv ?_); (try refine w_yes _ _ _ rfl rfl rfl ?_); refine w_str _ rfl rfl (v := vb) rfl (hb.ext hX) ?_)
            | fail) <;> (try simp only [Act.put, List.setIfInBounds_toArray, List.set_cons_zero, List.set_cons_succ]))
          go_ret
          exact Keep.intro ⟨rfl, hX⟩
      have hlt : k < l.length := by omega
      have t1 : decide (k < l.length) = true := by simpa using hlt
      obtain ⟨d, hd⟩ : ∃ d, l[k] = d := ⟨_, rfl⟩
      have hlk := hide_ hd
      clear hd hge
      go_wp2_with ((first
        | ((with_reducible refine at_idx ?_); refine w_ridx0 Try.elTx _ _ k TxR.stays rfl rfl (v := v) rfl rfl hl.out hX hlt ?_; rintro p row hrow hrl' ⟨rfl, hraw⟩; rw [hlk.out] at hrow)
        | ((with_reducible refine at_load ?_); refine w_pload Try.stTx _ rfl rfl rfl (hrow.ext hX) rfl ?_)
        | ((with_reducible refine at_alloc ?_); refine w_alloc (o := ⟨some 10, _, _, _, _, _⟩) Try.stTx rfl rfl ?_; intro g10 w5 hg10 hx5 f10)
        | ((with_reducible refine at_store ?_); refine w_astore Try.stTx (us := [.int .i64 d.id, .int .i64 d.fee]) _ _ rfl rfl rfl rfl rfl f10 rfl rfl d.one ?_; intro w6 hm6 f6; replace f10 := f6; replace hX := hX.trans (hm6.after hx5 (fun i e => e ▸ hg10)); clear f6 hm6 hx5 hg10 hrow hrl' hraw)
        | ((with_reducible refine at_bi ?_); refine w_rlen Try.elTx _ rfl rfl (v := v) rfl (hl.out.ext TxR.stays hX) ?_)
        | fail) <;> (try simp only [Act.put, List.setIfInBounds_toArray, List.set_cons_zero, List.set_cons_succ]))
      go_loopw [50] (fun i wr => ∃ j : Nat, i = .int .i64 j ∧ j ≤ l.length ∧ Fs wr g10 [.int .i64 d.id, .int .i64 d.fee] ∧ Ext W wr) (fun i _ => l.length - (intOf i).toNat)
      case atStart => exact ⟨0, rfl, Nat.zero_le _, f10, hX⟩
      case round =>
        clear f10 hX
        obtain ⟨j, rfl, hj, f10, hX⟩ := hrel
        by_cases hjge : l.length ≤ j
        · have t2 : decide (j < l.length) = false := by simpa using hjge
          clear hjge
          go_wp2
          go_roundw
          case rel => exact ⟨k + 1, by go_num, by omega, hX⟩
          case measure => simp [intOf]; omega
        have hjlt : j < l.length := by omega
        have t2 : decide (j < l.length) = true := by simpa using hjlt
        obtain ⟨d2, hd2⟩ : ∃ d2, l[j] = d2 := ⟨_, rfl⟩
        have hlj := hide_ hd2
        clear hd2 hjge
        cases hp0 : TxD.less d d2 with
        | true =>
          have hq := hide_ (show TxD.less d2 d = false from by
            cases hq : TxD.less d2 d with
            | false => rfl
            | true => exact absurd ⟨hp0, hq⟩ (TxD.less_one d d2))
          have hp := hide_ hp0
          clear hp0
          go_wp2_with ((first
            | (go_at_call 16; ((with_reducible refine (Less_any d d2 _).mono ?_); rintro e w9 ⟨rfl, hx⟩; rw [hp.out]; replace f10 := f10.ext hx; replace f12 := f12.ext hx; replace hX := hX.trans hx; clear hx))
            | (go_at_call 16; ((with_reducible refine (Less_any d2 d _).mono ?_); rintro e w9 ⟨rfl, hx⟩; rw [hq.out]; replace f10 := f10.ext hx; replace f12 := f12.ext hx; replace hX := hX.trans hx; clear hx))
            | ((with_reducible refine at_idx ?_); refine w_ridx0 Try.elTx _ _ j TxR.stays rfl rfl (v := v) rfl rfl hl.out hX hjlt ?_; rintro p row hrow hrl' ⟨rfl, hraw⟩; rw [hlj.out] at hrow)
            | ((with_reducible refine at_load ?_); refine w_pload Try.stTx _ rfl rfl rfl (hrow.ext hX) rfl ?_)
            | ((with_reducible refine at_alloc ?_); refine w_alloc (o := ⟨some 12, _, _, _, _, _⟩) Try.stTx rfl rfl ?_; intro g12 w7 hg12 hx7 f12; have n12 : ¬ g10 = g12 := (by have := f10.lt; omega); replace f10 := f10.ext hx7)
            | ((with_reducible refine at_store ?_); refine w_astore Try.stTx (us := [.int .i64 d2.id, .int .i64 d2.fee]) _ _ rfl rfl rfl rfl rfl f12 rfl rfl d2.one ?_; intro w8 hm8 f8; replace f12 := f8; replace f10 := f10.mod hm8 n12; replace hX := hX.trans (hm8.after hx7 (fun i e => e ▸ hg12)); clear f8 hm8 hx7 hg12 n12 hrow hrl' hraw)
            | ((with_reducible refine at_load ?_); (try refine w_yes _ _ _ rfl rfl rfl ?_); refine w_aload Try.stTx (.tmp 10) rfl rfl rfl f10 rfl ?_)
            | ((with_reducible refine at_load ?_); (try refine w_yes _ _ _ rfl rfl rfl ?_); refine w_aload Try.stTx (.tmp 12) rfl rfl rfl f12 rfl ?_)
            | fail) <;> (try simp only [Act.put, List.setIfInBounds_toArray, List.set_cons_zero, List.set_cons_succ]))
          go_roundw
          case rel => exact ⟨j + 1, by go_num, by omega, f10, hX⟩
          case measure => simp [intOf]; omega
        | false =>
          cases hq0 : TxD.less d2 d with
          | true =>
            have hp := hide_ hp0
            have hq := hide_ hq0
            clear hp0 hq0
            go_wp2_with ((first
              | (go_at_call 16; ((with_reducible refine (Less_any d d2 _).mono ?_); rintro e w9 ⟨rfl, hx⟩; rw [hp.out]; replace f10 := f10.ext hx; replace f12 := f12.ext hx; replace hX := hX.trans hx; clear hx))
              | (go_at_call 16; ((with_reducible refine (Less_any d2 d _).mono ?_); rintro e w9 ⟨rfl, hx⟩; rw [hq.out]; replace f10 := f10.ext hx; replace f12 := f12.ext hx; replace hX := hX.trans hx; clear hx))
              | ((with_reducible refine at_idx ?_); refine w_ridx0 Try.elTx _ _ j TxR.stays rfl rfl (v := v) rfl rfl hl.out hX hjlt ?_; rintro p row hrow hrl' ⟨rfl, hraw⟩; rw [hlj.out] at hrow)
              | ((with_reducible refine at_load ?_); refine w_pload Try.stTx _ rfl rfl rfl (hrow.ext hX) rfl ?_)
              | ((with_reducible refine at_alloc ?_); refine w_alloc (o := ⟨some 12, _, _, _, _, _⟩) Try.stTx rfl rfl ?_; intro g12 w7 hg12 hx7 f12; have n12 : ¬ g10 = g12 := (by have := f10.lt; omega); replace f10 := f10.ext hx7)
              | ((with_reducible refine at_store ?_); refine w_astore Try.stTx (us := [.int .i64 d2.id, .int .i64 d2.fee]) _ _ rfl rfl rfl rfl rfl f12 rfl rfl d2.one ?_; intro w8 hm8 f8; replace f12 := f8; replace f10 := f10.mod hm8 n12; replace hX := hX.trans (hm8.after hx7 (fun i e => e ▸ hg12)); clear f8 hm8 hx7 hg12 n12 hrow hrl' hraw)
              | ((with_reducible refine at_load ?_); (try refine w_yes _ _ _ rfl rfl rfl ?_); refine w_aload Try.stTx (.tmp 10) rfl rfl rfl f10 rfl ?_)
              | ((with_reducible refine at_load ?_); (try refine w_yes _ _ _ rfl rfl rfl ?_); refine w_aload Try.stTx (.tmp 12) rfl rfl rfl f12 rfl ?_)
              | fail) <;> (try simp only [Act.put, List.setIfInBounds_toArray, List.set_cons_zero, List.set_cons_succ]))
            go_roundw
            case rel => exact ⟨j + 1, by go_num, by omega, f10, hX⟩
            case measure => simp [intOf]; omega
          | false =>
            have hne := hide_ (show (!decide (d = d2)) = false from by rw [TxD.less_tot hp0 hq0]; simp)
            have hp := hide_ hp0
            have hq := hide_ hq0
            clear hp0 hq0
            go_wp2_with ((first
              | (go_at_call 16; ((with_reducible refine (Less_any d d2 _).mono ?_); rintro e w9 ⟨rfl, hx⟩; rw [hp.out]; replace f10 := f10.ext hx; replace f12 := f12.ext hx; replace hX := hX.trans hx; clear hx))
              | (go_at_call 16; ((with_reducible refine (Less_any d2 d _).mono ?_); rintro e w9 ⟨rfl, hx⟩; rw [hq.out]; replace f10 := f10.ext hx; replace f12 := f12.ext hx; replace hX := hX.trans hx; clear hx))
              | ((with_reducible refine at_idx ?_); refine w_ridx0 Try.elTx _ _ j TxR.stays rfl rfl (v := v) rfl rfl hl.out hX hjlt ?_; rintro p row hrow hrl' ⟨rfl, hraw⟩; rw [hlj.out] at hrow)
              | ((with_reducible refine at_load ?_); refine w_pload Try.stTx _ rfl rfl rfl (hrow.ext hX) rfl ?_)
              | ((with_reducible refine at_alloc ?_); refine w_alloc (o := ⟨some 12, _, _, _, _, _⟩) Try.stTx rfl rfl ?_; intro g12 w7 hg12 hx7 f12; have n12 : ¬ g10 = g12 := (by have := f10.lt; omega); replace f10 := f10.ext hx7)
              | ((with_reducible refine at_store ?_); refine w_astore Try.stTx (us := [.int .i64 d2.id, .int .i64 d2.fee]) _ _ rfl rfl rfl rfl rfl f12 rfl rfl d2.one ?_; intro w8 hm8 f8; replace f12 := f8; replace f10 := f10.mod hm8 n12; replace hX := hX.trans (hm8.after hx7 (fun i e => e ▸ hg12)); clear f8 hm8 hx7 hg12 n12 hrow hrl' hraw)
              | ((with_reducible refine at_load ?_); (try refine w_yes _ _ _ rfl rfl rfl ?_); refine w_aload Try.stTx (.tmp 10) rfl rfl rfl f10 rfl ?_)
              | ((with_reducible refine at_load ?_); (try refine w_yes _ _ _ rfl rfl rfl ?_); refine w_aload Try.stTx (.tmp 12) rfl rfl rfl f12 rfl ?_)
              | ((with_reducible refine at_bin ?_); (try refine w_yes _ _ _ rfl rfl rfl ?_); refine w_txne _ _ d d2 rfl rfl rfl rfl ?_; rw [hne.out])
              | fail) <;> (try simp only [Act.put, List.setIfInBounds_toArray, List.set_cons_zero, List.set_cons_succ]))
            go_roundw
            case rel => exact ⟨j + 1, by go_num, by omega, f10, hX⟩
            case measure => simp [intOf]; omega
  · have E1 := hide_ (show tlE l = 61 from if_neg hok)
    have E2 := hide_ (show tlB l = [] from if_neg hok)
    clear hok
    go_enter Try.func7, Try.ntmps7
    go_wp2_with ((first
      | (go_at_call 11; refine (alive_any _).mono ?_; rintro e w1 ⟨rfl, hX⟩)
      | (go_at_call 18; refine (TList_any (v := v) (hl.out.ext TxR.stays hX)).mono ?_; rintro e w2 ⟨v5, rfl, o5, hx⟩; rw [E1.out]; rw [E2.out] at o5; have b5 := o5.byt; replace hX := hX.trans hx; clear o5 hx)
      | ((with_reducible refine at_bi ?_); refine w_rlen Try.elTx _ rfl rfl (v := v) rfl (hl.out.ext TxR.stays hX) ?_)
      | fail) <;> (try simp only [Act.put, List.setIfInBounds_toArray, List.set_cons_zero, List.set_cons_succ]))
    clear E1 E2 b5
    go_loopw [44] (fun i wr => ∃ k : Nat, i = .int .i64 k ∧ k ≤ l.length ∧ Ext W wr) (fun i _ => l.length - (intOf i).toNat)
    case atStart => exact ⟨0, rfl, Nat.zero_le _, hX⟩
    case round =>
      clear hX
      obtain ⟨k, rfl, hk, hX⟩ := hrel
      by_cases hge : l.length ≤ k
      · have t1 : decide (k < l.length) = false := by simpa using hge
        clear hge
        cases hrb0 : rdLs b with
        | none =>
          have hrb := hide_ hrb0
          clear hrb0
          go_wp2_with ((first
            | (go_at_call 21; refine (TReadList_any hb256.out hblen.out b2).mono ?_; rintro e w3 ⟨v13, rfl, hx, o13⟩; rw [hrb.out] at o13 ⊢; have r13 := o13.recs; clear o13 b2; replace hX := hX.trans hx; clear hx)
            | ((with_reducible refine at_lit ?_); refine w_bempty (o := ⟨some 82, _, _, _, _, _⟩) rfl rfl ?_; intro vn wn B hB1 hBl hxn o1)
            | ((with_reducible refine at_bi ?_); refine appb (o := ⟨some 84, _, _, _, _, _⟩) _ _ rfl rfl rfl rfl o1 ((hb.ext hX).ext hxn) happ.out hBl ?_; intro vc wa o2 hba hga; rw [List.nil_append] at o2; replace hX := hX.trans (hxn.trans' (hba.mono hB1)); have b2 := o2.byt; clear o1 o2 hba hga hxn hB1 hBl)
            | ((with_reducible refine at_bi ?_); refine w_rlen Try.elTx _ rfl rfl (v := v13) rfl r13 ?_)
            | fail) <;> (try simp only [Act.put, List.setIfInBounds_toArray, List.set_cons_zero, List.set_cons_succ]))
          go_ret
          exact Keep.intro ⟨rfl, hX⟩
        | some m =>
          obtain ⟨hok, hbm⟩ := (rdLs_iff hb256.out m).1 hrb0
          have F1 := hide_ (show tlE m = 0 from if_pos hok)
          have F2 := hide_ (show tlB m = b from by rw [tlB, if_pos hok, hbm])
          have hrb := hide_ hrb0
          clear hrb0 hok hbm
          go_wp2_with ((first
            | (go_at_call 21; refine (TReadList_any hb256.out hblen.out b2).mono ?_; rintro e w3 ⟨v13, rfl, hx, o13⟩; rw [hrb.out] at o13 ⊢; have r13 := o13.recs; clear o13 b2; replace hX := hX.trans hx; clear hx)
            | (go_at_call 18; refine (TList_any (v := v13) (l := m) r13).mono ?_; rintro e w2 ⟨v15, rfl, o15, hx⟩; rw [F1.out]; rw [F2.out] at o15; have b15 := o15.byt; replace hX := hX.trans hx; clear o15 hx r13)
            | ((with_reducible refine at_lit ?_); refine w_bempty (o := ⟨some 82, _, _, _, _, _⟩) rfl rfl ?_; intro vn wn B hB1 hBl hxn o1)
            | ((with_reducible refine at_bi ?_); refine appb (o := ⟨some 84, _, _, _, _, _⟩) _ _ rfl rfl rfl rfl o1 ((hb.ext hX).ext hxn) happ.out hBl ?_; intro vc wa o2 hba hga; rw [List.nil_append] at o2; replace hX := hX.trans (hxn.trans' (hba.mono hB1)); have b2 := o2.byt; clear o1 o2 hba hga hxn hB1 hBl)
            | ((with_reducible refine at_conv ?_); (try refine w_yes _ _ _ rfl rfl rfl ?_); refine w_str _ rfl rfl (v := v15) rfl b15 ?_)
            | ((with_reducible refine at_conv ?_); (try refine w_yes _ _ _ rfl rfl rfl ?_); refine w_str _ rfl rfl (v := vb) rfl (hb.ext hX) ?_)
            | fail) <;> (try simp only [Act.put, List.setIfInBounds_toArray, List.set_cons_zero, List.set_cons_succ]))
          go_ret
          exact Keep.intro ⟨rfl, hX⟩
      have hlt : k < l.length := by omega
      have t1 : decide (k < l.length) = true := by simpa using hlt
      obtain ⟨d, hd⟩ : ∃ d, l[k] = d := ⟨_, rfl⟩
      have hlk := hide_ hd
      clear hd hge
      go_wp2_with ((first
        | ((with_reducible refine at_idx ?_); refine w_ridx0 Try.elTx _ _ k TxR.stays rfl rfl (v := v) rfl rfl hl.out hX hlt ?_; rintro p row hrow hrl' ⟨rfl, hraw⟩; rw [hlk.out] at hrow)
        | ((with_reducible refine at_load ?_); refine w_pload Try.stTx _ rfl rfl rfl (hrow.ext hX) rfl ?_)
        | ((with_reducible refine at_alloc ?_); refine w_alloc (o := ⟨some 10, _, _, _, _, _⟩) Try.stTx rfl rfl ?_; intro g10 w5 hg10 hx5 f10)
        | ((with_reducible refine at_store ?_); refine w_astore Try.stTx (us := [.int .i64 d.id, .int .i64 d.fee]) _ _ rfl rfl rfl rfl rfl f10 rfl rfl d.one ?_; intro w6 hm6 f6; replace f10 := f6; replace hX := hX.trans (hm6.after hx5 (fun i e => e ▸ hg10)); clear f6 hm6 hx5 hg10 hrow hrl' hraw)
        | ((with_reducible refine at_bi ?_); refine w_rlen Try.elTx _ rfl rfl (v := v) rfl (hl.out.ext TxR.stays hX) ?_)
        | fail) <;> (try simp only [Act.put, List.setIfInBounds_toArray, List.set_cons_zero, List.set_cons_succ]))
      go_loopw [50] (fun i wr => ∃ j : Nat, i = .int .i64 j ∧ j ≤ l.length ∧ Fs wr g10 [.int .i64 d.id, .int .i64 d.fee] ∧ Ext W wr) (fun i _ => l.length - (intOf i).toNat)
      case atStart => exact ⟨0, rfl, Nat.zero_le _, f10, hX⟩
      case round =>
        clear f10 hX
        obtain ⟨j, rfl, hj, f10, hX⟩ := hrel
        by_cases hjge : l.length ≤ j
        · have t2 : decide (j < l.length) = false := by simpa using hjge
          clear hjge
          go_wp2
          go_roundw
          case rel => exact ⟨k + 1, by go_num, by omega, hX⟩
          case measure => simp [intOf]; omega
        have hjlt : j < l.length := by omega
        have t2 : decide (j < l.length) = true := by simpa using hjlt
        obtain ⟨d2, hd2⟩ : ∃ d2, l[j] = d2 := ⟨_, rfl⟩
        have hlj := hide_ hd2
        clear hd2 hjge
        cases hp0 : TxD.less d d2 with
        | true =>
          have hq := hide_ (show TxD.less d2 d = false from by
            cases hq : TxD.less d2 d with
            | false => rfl
            | true => exact absurd ⟨hp0, hq⟩ (TxD.less_one d d2))
          have hp := hide_ hp0
          clear hp0
          go_wp2_with ((first
            | (go_at_call 16; ((with_reducible refine (Less_any d d2 _).mono ?_); rintro e w9 ⟨rfl, hx⟩; rw [hp.out]; replace f10 := f10.ext hx; replace f12 := f12.ext hx; replace hX := hX.trans hx; clear hx))
            | (go_at_call 16; ((with_reducible refine (Less_any d2 d _).mono ?_); rintro e w9 ⟨rfl, hx⟩; rw [hq.out]; replace f10 := f10.ext hx; replace f12 := f12.ext hx; replace hX := hX.trans hx; clear hx))
            | ((with_reducible refine at_idx ?_); refine w_ridx0 Try.elTx _ _ j TxR.stays rfl rfl (v := v) rfl rfl hl.out hX hjlt ?_; rintro p row hrow hrl' ⟨rfl, hraw⟩; rw [hlj.out] at hrow)
            | ((with_reducible refine at_load ?_); refine w_pload Try.stTx _ rfl rfl rfl (hrow.ext hX) rfl ?_)
            | ((with_reducible refine at_alloc ?_); refine w_alloc (o := ⟨some 12, _, _, _, _, _⟩) Try.stTx rfl rfl ?_; intro g12 w7 hg12 hx7 f12; have n12 : ¬ g10 = g12 := (by have := f10.lt; omega); replace f10 := f10.ext hx7)
            | ((with_reducible refine at_store ?_); refine w_astore Try.stTx (us := [.int .i64 d2.id, .int .i64 d2.fee]) _ _ rfl rfl rfl rfl rfl f12 rfl rfl d2.one ?_; intro w8 hm8 f8; replace f12 := f8; replace f10 := f10.mod hm8 n12; replace hX := hX.trans (hm8.after hx7 (fun i e => e ▸ hg12)); clear f8 hm8 hx7 hg12 n12 hrow hrl' hraw)
            | ((with_reducible refine at_load ?_); (try refine w_yes _ _ _ rfl rfl rfl ?_); refine w_aload Try.stTx (.tmp 10) rfl rfl rfl f10 rfl ?_)
            | ((with_reducible refine at_load ?_); (try refine w_yes _ _ _ rfl rfl rfl ?_); refine w_aload Try.stTx (.tmp 12) rfl rfl rfl f12 rfl ?_)
            | fail) <;> (try simp only [Act.put, List.setIfInBounds_toArray, List.set_cons_zero, List.set_cons_succ]))
          go_roundw
          case rel => exact ⟨j + 1, by go_num, by omega, f10, hX⟩
          case measure => simp [intOf]; omega
        | false =>
          cases hq0 : TxD.less d2 d with
          | true =>
            have hp := hide_ hp0
            have hq := hide_ hq0
            clear hp0 hq0
            go_wp2_with ((first
              | (go_at_call 16; ((with_reducible refine (Less_any d d2 _).mono ?_); rintro e w9 ⟨rfl, hx⟩; rw [hp.out]; replace f10 := f10.ext hx; replace f12 := f12.ext hx; replace hX := hX.trans hx; clear hx))
              | (go_at_call 16; ((with_reducible refine (Less_any d2 d _).mono ?_); rintro e w9 ⟨rfl, hx⟩; rw [hq.out]; replace f10 := f10.ext hx; replace f12 := f12.ext hx; replace hX := hX.trans hx; clear hx))
              | ((with_reducible refine at_idx ?_); refine w_ridx0 Try.elTx _ _ j TxR.stays rfl rfl (v := v) rfl rfl hl.out hX hjlt ?_; rintro p row hrow hrl' ⟨rfl, hraw⟩; rw [hlj.out] at hrow)
              | ((with_reducible refine at_load ?_); refine w_pload Try.stTx _ rfl rfl rfl (hrow.ext hX) rfl ?_)
              | ((with_reducible refine at_alloc ?_); refine w_alloc (o := ⟨some 12, _, _, _, _, _⟩) Try.stTx rfl rfl ?_; intro g12 w7 hg12 hx7 f12; have n12 : ¬ g10 = g12 := (by have := f10.lt; omega); replace f10 := f10.ext hx7)
              | ((with_reducible refine at_store ?_); refine w_astore Try.stTx (us := [.int .i64 d2.id, .int .i64 d2.fee]) _ _ rfl rfl rfl rfl rfl f12 rfl rfl d2.one ?_; intro w8 hm8 f8; replace f12 := f8; replace f10 := f10.mod hm8 n12; replace hX := hX.trans (hm8.after hx7 (fun i e => e ▸ hg12)); clear f8 hm8 hx7 hg12 n12 hrow hrl' hraw)
              | ((with_reducible refine at_load ?_); (try refine w_yes _ _ _ rfl rfl rfl ?_); refine w_aload Try.stTx (.tmp 10) rfl rfl rfl f10 rfl ?_)
              | ((with_reducible refine at_load ?_); (try refine w_yes _ _ _ rfl rfl rfl ?_); refine w_aload Try.stTx (.tmp 12) rfl rfl rfl f12 rfl ?_)
              | fail) <;> (try simp only [Act.put, List.setIfInBounds_toArray, List.set_cons_zero, List.set_cons_succ]))
            go_roundw
            case rel => exact ⟨j + 1, by go_num, by omega, f10, hX⟩
            case measure => simp [intOf]; omega
          | false =>
            have hne := hide_ (show (!decide (d = d2)) = false from by rw [TxD.less_tot hp0 hq0]; simp)
            have hp := hide_ hp0
            have hq := hide_ hq0
            clear hp0 hq0
            go_wp2_with ((first
              | (go_at_call 16; ((with_reducible refine (Less_any d d2 _).mono ?_); rintro e w9 ⟨rfl, hx⟩; rw [hp.out]; replace f10 := f10.ext hx; replace f12 := f12.ext hx; replace hX := hX.trans hx; clear hx))
              | (go_at_call 16; ((with_reducible refine (Less_any d2 d _).mono ?_); rintro e w9 ⟨rfl, hx⟩; rw [hq.out]; replace f10 := f10.ext hx; replace f12 := f12.ext hx; replace hX := hX.trans hx; clear hx))
              | ((with_reducible refine at_idx ?_); refine w_ridx0 Try.elTx _ _ j TxR.stays rfl rfl (v := v) rfl rfl hl.out hX hjlt ?_; rintro p row hrow hrl' ⟨rfl, hraw⟩; rw [hlj.out] at hrow)
              | ((with_reducible refine at_load ?_); refine w_pload Try.stTx _ rfl rfl rfl (hrow.ext hX) rfl ?_)
              | ((with_reducible refine at_alloc ?_); refine w_alloc (o := ⟨some 12, _, _, _, _, _⟩) Try.stTx rfl rfl ?_; intro g12 w7 hg12 hx7 f12; have n12 : ¬ g10 = g12 := (by have := f10.lt; omega); replace f10 := f10.ext hx7)
              | ((with_reducible refine at_store ?_); refine w_astore Try.stTx (us := [.int .i64 d2.id, .int .i64 d2.fee]) _ _ rfl rfl rfl rfl rfl f12 rfl rfl d2.one ?_; intro w8 hm8 f8; replace f12 := f8; replace f10 := f10.mod hm8 n12; replace hX := hX.trans (hm8.after hx7 (fun i e => e ▸ hg12)); clear f8 hm8 hx7 hg12 n12 hrow hrl' hraw)
              | ((with_reducible refine at_load ?_); (try refine w_yes _ _ _ rfl rfl rfl ?_); refine w_aload Try.stTx (.tmp 10) rfl rfl rfl f10 rfl ?_)
              | ((with_reducible refine at_load ?_); (try refine w_yes _ _ _ rfl rfl rfl ?_); refine w_aload Try.stTx (.tmp 12) rfl rfl rfl f12 rfl ?_)
              | ((with_reducible refine at_bin ?_); (try refine w_yes _ _ _ rfl rfl rfl ?_); refine w_txne _ _ d d2 rfl rfl rfl rfl ?_; rw [hne.out])
              | fail) <;> (try simp only [Act.put, List.setIfInBounds_toArray, List.set_cons_zero, List.set_cons_succ]))
            go_roundw
            case rel => exact ⟨j + 1, by go_num, by omega, f10, hX⟩
            case measure => simp [intOf]; omega

set_option maxRecDepth 100000 in
theorem txBack_lifted (os : Os) (started : os.Started) (H : Type) (enc : TypeId × Value → H) :
    ReturnsInHanded {} Try.checked os 7 .any (Rows.txBackSpec.pre6 enc Try.prog Try.f7 Rows.txBackRow.domain false) (Rows.txBackSpec.post enc Try.prog Try.f7 false true false false) := by
  refine law_lifted (s := Rows.txBackSpec) (conds := Rows.txBackRow.domain) Try.func7 (by kernel_rfl) rfl (fun H ds h => by
      rw [show Try.f7.params.size = 2 from rfl] at h
      match ds, h with
      | [d0, d1], _ => rfl) rfl rfl (by decide +kernel) os started H enc
    (ChangeSpec.witness6 (enc := enc) (C := Try.checked) false ⟨#[], #[.slice none 0 0, .slice none 0 0], []⟩ 8 (by kernel_rfl) (by kernel_rfl) (by kernel_rfl) (by kernel_rfl)) ?_
  intro W base args ds p hval hA hsz _
  have hp : Try.f7.params.toList = [35, 28] := rfl
  rw [hp] at hA hsz
  obtain ⟨v0, v1, d0, d1, p0, p1, rfl, rfl, rfl, h0, h1⟩ := trodAll_two hA
  obtain ⟨l0, a0, b0⟩ := arg_TxsL hsz (j := 0) rfl rfl (hval 0 35 v0 rfl rfl) h0
  rw [show Try.prog.bytesOf 23 = 16 from by kernel_rfl] at b0
  obtain ⟨l1, a1, b1, c1⟩ := arg_bytes hsz (j := 1) rfl rfl (hval 1 28 v1 rfl rfl) h1
  exact txBack_law v0 l0 v1 l1 W a0 a1 b1 c1

theorem txBack_holds : Rows.TxBackSaid :=
  OpenClaim.holds_of_wide 7 Try.f7 rfl rfl rfl rfl rfl rfl rfl ⟨rfl, rfl, rfl, rfl, rfl⟩ rfl rfl rfl rfl rfl (by kernel_rfl) Try.func7 (by kernel_rfl)
    (of_decide_eq_true (by kernel_rfl)) (by unfold Func.isWrapper; first | (rw [if_pos (by decide +kernel)]; kernel_rfl) | (rw [if_neg (by decide +kernel)]; exact ⟨rfl, rfl⟩))
    (fun os started H enc _ => txBack_lifted os started H enc)
#print axioms txBack_holds

end Go.Proofs.Ytabbgnlabiakoaa
