/- The statement MempoolPicks: what is picked is there, none skipped, and whoever is left out goes behind all that are picked; dropped it isn't there any more. No condition. -/
import Derived.Test.YtdacclcaopmalaaMLa
import Derived.Test.YtdacclcaopmalaaMemQ
import Derived.Test.YtdacclcaopmalaaArgI
namespace Go.Proofs.Ytdacclcaopmalaa
set_option maxRecDepth 100000
open Go.RowKit Go.ChangeShapes Go.WideShapes Go.ChangeAt

set_option maxRecDepth 100000 in
set_option maxHeartbeats 12800000 in
theorem mempoolPicks_law (v0 : Value) (l : List TxD) (many : Int) (vi : Value) (skip : List Int) (W : World) (hl00 : Recs 2 TxR W v0 l) (_hm : I64 many) (hs00 : Ints W vi skip) (_hs : ∀ x ∈ skip, -9223372036854775808 ≤ x ∧ x ≤ 9223372036854775807) : Calls Try.prog 6 #[v0, .int .i64 many, vi] W fun e w' => e = .returned (.bool true) ∧ Ext W w' := by
  refine calls_keep ?_
  have hl0 := hide_ hl00
  have hs0 := hide_ hs00
  have hmax := hl00.len_le
  have hsmax := hs00.len_le
  unfold maxLen at hmax hsmax
  have hraws := hide_ (recs_rows hl00).2
  clear hl00 hs00 _hs _hm
  by_cases hbig : 60 < l.length
  · have t1 : decide ((60 : Int) < (l.length : Int)) = true := decide_eq_true (by omega)
    go_enter Try.func6, Try.ntmps6
    go_wp2_with ((first
      | (go_at_call 10; refine (poolAlive_any _).mono ?_; rintro e w2 ⟨rfl, hX⟩)
      | ((with_reducible refine at_bi ?_); refine w_rlen Try.elTx _ rfl rfl rfl (hl0.out.ext TxR.stays hX) ?_)
      | fail) <;> (try simp only [Act.put, List.setIfInBounds_toArray, List.set_cons_zero, List.set_cons_succ]))
    go_ret
    exact Keep.intro ⟨rfl, hX⟩
  have t1 : decide ((60 : Int) < (l.length : Int)) = false := decide_eq_false (by omega)
  go_enter Try.func6, Try.ntmps6
  go_wp2_with ((first
    | (go_at_call 11; refine (PNew_any (w := _)).mono ?_; rintro e w1 ⟨p, rfl, hP, hx, hp⟩; have hO : Out W (fun k => k = p) w1 := ⟨hX.trans hx, fun k hk => hk ▸ Nat.le_trans hX.size hp⟩; clear hX hx hp)
    | (go_at_call 10; refine (poolAlive_any _).mono ?_; rintro e w2 ⟨rfl, hX⟩)
    | ((with_reducible refine at_bi ?_); have _t := hX; refine w_rlen Try.elTx _ rfl rfl rfl (hl0.out.ext TxR.stays hX) ?_)
    | ((with_reducible refine at_bi ?_); refine w_rlen Try.elTx _ rfl rfl rfl (hl0.out.ext TxR.stays hO.ext) ?_)
    | fail) <;> (try simp only [Act.put, List.setIfInBounds_toArray, List.set_cons_zero, List.set_cons_succ]))
  go_loopw [33] (fun i wr => ∃ (k : Nat) (F : Nat → Prop), i = .int .i64 k ∧ k ≤ l.length ∧ Pl F wr p (pst l k) ∧ Out W F wr) (fun i _ => l.length - (RowKit.intOf i).toNat)
  case atStart => exact ⟨0, _, rfl, Nat.zero_le _, by rw [pst_zero]; exact hP, hO⟩
  case round =>
    clear hP hO
    obtain ⟨k, F, rfl, hk, hP, hO⟩ := hrel
    have hok := pst_ok l k
    by_cases hge : l.length ≤ k
    rotate_left
    · have hlt : k < l.length := by omega
      have t2 : decide (k < l.length) = true := by simpa using hlt
      obtain ⟨d, hd0⟩ : ∃ d, l[k]? = some d := ⟨_, List.getElem?_eq_getElem hlt⟩
      have hdr := hide_ (hraws.out d (List.mem_of_getElem? hd0))
      have hst := hide_ (pst_succ hd0)
      obtain ⟨X, hX0⟩ : ∃ X, pst l k = X := ⟨_, rfl⟩
      rw [hX0] at hP hok hst
      have hok' := hide_ hok
      have hd := hide_ hd0
      have hlt' := hide_ hlt
      have hkb : k ≤ 60 := by omega
      clear hge hlt hd0 hok hX0
      go_wp2_with ((first
        | (go_at_call 13; refine (PAdd_any (t := d) hP hok'.out hdr.out).mono ?_; rintro e w7 ⟨F2, rfl, hP2, hU⟩; rw [← hst.out] at hP2; replace hO := hO.upd hU; replace hP := hP2; clear hP2 hU f9)
        | ((with_reducible refine at_idx ?_); refine w_tidx Try.elTx _ _ k rfl rfl rfl rfl hl0.out hO.ext hd.out ?_; intro pa hrow; replace hrow := hide_ hrow)
        | ((with_reducible refine at_load ?_); refine w_pload Try.stTx _ rfl rfl rfl hrow.out rfl ?_)
        | ((with_reducible refine at_alloc ?_); refine w_alloc Try.stTx rfl rfl ?_; intro g9 w2 hg9 hx2 f9)
        | ((with_reducible refine at_store ?_); refine w_astore Try.stTx _ _ (us := [.int .i64 d.id, .int .i64 d.fee]) rfl rfl rfl rfl rfl f9 rfl rfl (by intro u hu; simp at hu; rcases hu with rfl | rfl <;> rfl) ?_; intro w3 hm3 f8; replace hx2 := hm3.after hx2 (fun i hi => by subst hi; exact hg9); replace f9 := f8; replace hP := hP.ext hx2; replace hO := hO.extend hx2; clear hm3 f8 hx2 hg9)
        | ((with_reducible refine at_load ?_); refine w_aload Try.stTx (.tmp 9) rfl rfl rfl f9 rfl ?_)
        | fail) <;> (try simp only [Act.put, List.setIfInBounds_toArray, List.set_cons_zero, List.set_cons_succ]))
      go_roundw
      case rel => exact ⟨k + 1, F2, by go_num, hlt'.out, hP, hO⟩
      case measure => have := hlt'.out; simp [RowKit.intOf]; omega
    obtain rfl : k = l.length := by omega
    have t2 : decide (l.length < l.length) = false := by simp
    obtain ⟨K, hK⟩ : ∃ K, pst l l.length = K := ⟨_, rfl⟩
    rw [hK] at hP hok
    have hfew := hide_ hok.few
    have hnot := hide_ (fun u (h : u ∈ Mem.pick K many skip) => pick_not h)
    have hcnt := hide_ (pick_count (many := many) (skip := skip) hok)
    have hmost := hide_ (pick_most (K := K) (many := many) (skip := skip))
    have hlin := hide_ (fun t (h : t ∈ Mem.drop K ((Mem.pick K many skip).map TxD.id)) => left_in h)
    have hlls := hide_ (fun t u (h : t ∈ Mem.drop K ((Mem.pick K many skip).map TxD.id)) hs hu => left_less (t := t) (u := u) hok h hs hu)
    have hlfu := hide_ (fun t (h : t ∈ Mem.drop K ((Mem.pick K many skip).map TxD.id)) hs => left_full (t := t) h hs)
    obtain ⟨Z, hZ0⟩ : ∃ Z, Mem.pick K many skip = Z := ⟨_, rfl⟩
    rw [hZ0] at hnot hcnt hmost hlin hlls hlfu
    obtain ⟨R, hR0⟩ : ∃ R, Mem.drop K (Z.map TxD.id) = R := ⟨_, rfl⟩
    rw [hR0] at hcnt hlin hlls hlfu
    have hZ := hide_ hZ0
    have hR := hide_ hR0
    have hZl : Z.length ≤ 16 := by have := hcnt.out; have := hfew.out; omega
    have hRl := hide_ (show R.length ≤ 16 from by have := hcnt.out; have := hfew.out; omega)
    clear hge hK hok hk hZ0 hR0
    go_wp2_with ((first
      | (go_at_call 12; refine (PList_any hP hfew.out).mono ?_; rintro e w5 ⟨v10, rfl, o10, hx⟩; have h10o := hide_ (show ∀ q, v10.ownBlock = some q → ¬ F q from fun q hq h => by have h1 := o10.new q hq; have h2 := hP.lt q h; omega); replace hP := hP.ext hx; replace hO := hO.extend hx; clear hx)
      | (go_at_call 18; refine (PPick_any (many := many) hP hfew.out (hs0.out.ext hO.ext)).mono ?_; rintro e w7 ⟨v11, rfl, o11, hx⟩; rw [hZ.out] at o11; have h11o := hide_ (show ∀ q, v11.ownBlock = some q → ¬ F q from fun q hq h => by have h1 := o11.new q hq; have h2 := hP.lt q h; omega); replace o10 := o10.ext hx; replace hP := hP.ext hx; replace hO := hO.extend hx; clear hx)
      | ((with_reducible refine at_lit ?_); refine w_new Try.elI (i64s []) rfl rfl rfl (i64s_cells _) rfl (by omega) ?_; intro v12 w11 hx3 o12; replace o12 : OwnI _ w11 v12 [] := o12)
      | ((with_reducible refine at_bi ?_); refine w_rlen Try.elTx _ rfl rfl rfl (o11.ext hx3).recs ?_)
      | fail) <;> (try simp only [Act.put, List.setIfInBounds_toArray, List.set_cons_zero, List.set_cons_succ]))
    have hPb := hide_ hP
    have hOb := hide_ hO
    have h10b := hide_ o10
    have h11b := hide_ o11
    have hr11 := hide_ o11.recs
    have hX := hx3
    clear hP hO o10 o11 hx3
    go_loopw [12, 50] (fun u12 i wr => ∃ m : Nat, i = .int .i64 m ∧ m ≤ Z.length ∧ OwnI w7.heap.size wr u12 ((Z.take m).map TxD.id) ∧ Ext w7 wr) (fun _ i _ => Z.length - (RowKit.intOf i).toNat)
    case atStart => exact ⟨0, rfl, Nat.zero_le _, o12, hX⟩
    case round =>
      clear hX o12
      obtain ⟨m, rfl, hm, o12, hX⟩ := hrel
      by_cases hgm : Z.length ≤ m
      rotate_left
      · have hlm : m < Z.length := by omega
        have t3 : decide (m < Z.length) = true := by simpa using hlm
        obtain ⟨d, hd0⟩ : ∃ d, Z[m]? = some d := ⟨_, List.getElem?_eq_getElem hlm⟩
        have hd := hide_ hd0
        have hlm' := hide_ hlm
        have hns := hide_ (hnot.out d (List.mem_of_getElem? hd0))
        have he := hide_ (show (Z.take m).map TxD.id ++ [d.id] = (Z.take (m + 1)).map TxD.id from by rw [List.take_add_one, hd0, List.map_append]; rfl)
        have hbg := hide_ (show (((Z.take m).map TxD.id).length + ([d.id] : List Int).length) * 8 ≤ 140737488355328 from by simp; omega)
        have hmb : m ≤ 16 := by omega
        clear hgm hlm hd0
        go_wp2_with ((first
          | ((with_reducible refine at_idx ?_); refine w_tidx Try.elTx _ _ m rfl rfl rfl rfl hr11.out hX hd.out ?_; intro pa hrow; replace hrow := hide_ hrow)
          | ((with_reducible refine at_load ?_); refine w_pload Try.stTx _ rfl rfl rfl hrow.out rfl ?_)
          | ((with_reducible refine at_alloc ?_); refine w_alloc Try.stTx rfl rfl ?_; intro g14 w2 hg14 hx2 f14; have n14 := hide_ (show ¬ u12.ownBlock = some g14 from fun e => by have := (own_block_lt (g := g14) o12 e).2; omega))
          | ((with_reducible refine at_store ?_); refine w_astore Try.stTx _ _ (us := [.int .i64 d.id, .int .i64 d.fee]) rfl rfl rfl rfl rfl f14 rfl rfl (by intro u hu; simp at hu; rcases hu with rfl | rfl <;> rfl) ?_; intro w3 hm3 f8; replace hx2 := hm3.after hx2 (fun i hi => by subst hi; exact hg14); replace f14 := f8; replace o12 := own_ext o12 hx2; replace hX := hX.trans hx2; clear hm3 f8 hx2 hg14)
          | ((with_reducible refine at_field ?_); refine w_field Try.stTx _ _ _ rfl rfl rfl (by omega) ?_)
          | ((with_reducible refine at_load ?_); refine w_fload (.tmp 55) rfl rfl rfl f14 rfl (agg_of (by kernel_rfl)) ?_)
          | ((with_reducible refine at_lit ?_); refine w_new Try.elI (i64s [d.id]) rfl rfl rfl (i64s_cells _) rfl (by omega) ?_; intro v57 w6 hx6 o57; replace o57 : OwnI _ w6 v57 [d.id] := o57; replace o12 := own_ext o12 hx6; replace f14 := f14.ext hx6; replace hX := hX.trans hx6; clear hx6)
          | ((with_reducible refine at_bi ?_); refine appi _ _ rfl rfl rfl rfl o12 o57.ints hbg.out hX.size ?_; intro v58 w8 o58 hb58 hg58 hg58'; replace f14 := f14.mod (Mod.grown hg58) n14.out; replace hX := hX.trans' hb58; rw [he.out] at o58; clear hb58 hg58 hg58' o57 o12)
          | ((with_reducible refine at_bi ?_); refine i_len _ rfl rfl (v := vi) rfl (hs0.out.ext (hOb.out.ext.trans hX)) ?_)
          | fail) <;> (try simp only [Act.put, List.setIfInBounds_toArray, List.set_cons_zero, List.set_cons_succ]))
        have hXh := hide_ hX
        have h12 := hide_ o58
        clear hX o58
        have hXr := Ext.refl w8
        go_loopw [61] (fun i wr => ∃ j : Nat, i = .int .i64 j ∧ j ≤ skip.length ∧ wr = w8) (fun i _ => skip.length - (RowKit.intOf i).toNat)
        case atStart => exact ⟨0, rfl, Nat.zero_le _, rfl⟩
        case round =>
          obtain ⟨j, rfl, hj, rfl⟩ := hrel
          by_cases hgj : skip.length ≤ j
          · obtain rfl : j = skip.length := by omega
            have t4 : decide (skip.length < skip.length) = false := by simp
            clear hgj hj
            go_wp2
            go_roundw
            case rel => exact ⟨m + 1, by go_num, hlm'.out, h12.out, hXh.out⟩
            case measure => have := hlm'.out; simp [RowKit.intOf]; omega
          have hlj : j < skip.length := by omega
          have t4 : decide (j < skip.length) = true := by simpa using hlj
          obtain ⟨x, hx0⟩ : ∃ x, skip[j] = x := ⟨_, rfl⟩
          have c1 : (x == d.id) = false := by
            rw [beq_eq_false_iff_ne]
            exact fun e => hns.out (e ▸ hx0 ▸ List.getElem_mem hlj)
          have hx := hide_ hx0
          have hlj' := hide_ hlj
          have hjb : j < 9223372036854775807 := by omega
          clear hgj hx0
          go_wp2_with ((first
            | ((with_reducible refine at_idx ?_); refine i_idx _ _ j rfl rfl rfl (hs0.out.ext (hOb.out.ext.trans hXh.out)) rfl hlj'.out ?_; intro ad had; rw [hx.out] at had)
            | ((with_reducible refine at_field ?_); refine w_field Try.stTx _ _ _ rfl rfl rfl (by omega) ?_)
            | ((with_reducible refine at_load ?_); refine w_fload (.tmp 66) rfl rfl rfl f14 rfl (agg_of (by kernel_rfl)) ?_)
            | fail) <;> (try simp only [Act.put, List.setIfInBounds_toArray, List.set_cons_zero, List.set_cons_succ]))
          go_roundw
          case rel => exact ⟨j + 1, by go_num, hlj'.out, trivial⟩
          case measure => have := hlj'.out; simp [RowKit.intOf]; omega
      obtain rfl : m = Z.length := by omega
      have t3 : decide (Z.length < Z.length) = false := by simp
      rw [List.take_length] at o12
      have hP := hPb.out.ext hX
      have hO := hOb.out.extend hX
      have hr10 := hide_ (h10b.out.ext hX)
      have hr11a := hide_ (h11b.out.ext hX)
      have hb12 := hide_ (show ∀ q, u12.ownBlock = some q → ¬ F q from fun q hq h => by have h1 := (own_block_lt (g := q) o12 hq).1; have h2 := hPb.out.lt q h; omega)
      have hcz : (((Z.length : Int) + (R.length : Int)) != (K.length : Int)) = false := by rw [bne_eq_false_iff_eq]; have := hcnt.out; omega
      obtain ⟨mx, hmx0⟩ : ∃ mx, max 0 many = mx := ⟨_, rfl⟩
      have hmx := hide_ hmx0.symm
      have t5 : decide (mx < (Z.length : Int)) = false := decide_eq_false (by have := hmost.out; omega)
      have hRb := hRl.out
      clear hgm hm hmx0
      go_wp2_with ((first
        | (go_at_call 14; refine (PDrop_any hP hfew.out o12.ints hb12.out).mono ?_; rintro e w9 ⟨rfl, hP2, hm9⟩; rw [hR.out] at hP2; have hr10m := hide_ ((hr10.out.mod hm9 h10o.out).recs); have hr11m := hide_ ((hr11a.out.mod hm9 h11o.out).recs); replace hO := hO.upd ⟨hm9, fun _ h => .inl h⟩; replace hP := hP2; clear hm9 hP2 o12)
        | (go_at_call 12; refine (PList_any hP hRl.out).mono ?_; rintro e w13 ⟨v17, rfl, o17, hx⟩; have hr17 := hide_ o17.recs; have hr10n := hide_ (hr10m.out.ext TxR.stays hx); have hr11n := hide_ (hr11m.out.ext TxR.stays hx); replace hO := hO.extend hx; clear hx hP o17)
        | ((with_reducible refine at_bi ?_); refine w_rlen Try.elTx _ rfl rfl (v := v11) rfl hr11n.out ?_)
        | ((with_reducible refine at_bi ?_); refine w_rlen Try.elTx _ rfl rfl (v := v17) rfl hr17.out ?_)
        | ((with_reducible refine at_bi ?_); refine w_rlen Try.elTx _ rfl rfl (v := v10) rfl hr10n.out ?_)
        | ((with_reducible refine at_bi ?_); (try refine w_yes _ _ _ rfl rfl rfl ?_); refine w_rlen Try.elTx _ rfl rfl (v := v11) rfl hr11n.out ?_)
        | ((with_reducible refine at_bi ?_); (try refine w_yes _ _ _ rfl rfl rfl ?_); refine w_max _ _ mx hmx.out rfl rfl rfl rfl ?_)
        | fail) <;> (try simp only [Act.put, List.setIfInBounds_toArray, List.set_cons_zero, List.set_cons_succ]))
      have hOw := hide_ hO
      clear hO
      go_loopw [93] (fun i wr => ∃ a : Nat, i = .int .i64 a ∧ a ≤ R.length ∧ Ext w13 wr) (fun i _ => R.length - (RowKit.intOf i).toNat)
      case atStart => exact ⟨0, rfl, Nat.zero_le _, Ext.refl _⟩
      case round =>
        clear hX
        obtain ⟨a, rfl, ha, hX⟩ := hrel
        by_cases hga : R.length ≤ a
        · obtain rfl : a = R.length := by omega
          have t6 : decide (R.length < R.length) = false := by simp
          clear hga ha
          go_wp2
          go_ret
          exact Keep.intro ⟨rfl, hOw.out.ext.trans hX⟩
        have hla : a < R.length := by omega
        have t6 : decide (a < R.length) = true := by simpa using hla
        obtain ⟨t, ht0⟩ : ∃ t, R[a]? = some t := ⟨_, List.getElem?_eq_getElem hla⟩
        have htm := hide_ (List.mem_of_getElem? ht0)
        have ht := hide_ ht0
        have hla' := hide_ hla
        have hab : a ≤ 16 := by omega
        clear hga hla ht0
        go_wp2_with ((first
          | ((with_reducible refine at_idx ?_); refine w_tidx Try.elTx _ _ a rfl rfl rfl rfl hr17.out hX ht.out ?_; intro pa hrow; replace hrow := hide_ hrow)
          | ((with_reducible refine at_load ?_); refine w_pload Try.stTx _ rfl rfl rfl hrow.out rfl ?_)
          | ((with_reducible refine at_alloc ?_); refine w_alloc Try.stTx rfl rfl ?_; intro g19 w2 hg19 hx2 f19)
          | ((with_reducible refine at_store ?_); refine w_astore Try.stTx _ _ (us := [.int .i64 t.id, .int .i64 t.fee]) rfl rfl rfl rfl rfl f19 rfl rfl (by intro u hu; simp at hu; rcases hu with rfl | rfl <;> rfl) ?_; intro w14 hm3 f8; replace hx2 := hm3.after hx2 (fun i hi => by subst hi; exact hg19); replace f19 := f8; replace hX := hX.trans hx2; clear hm3 f8 hx2 hg19)
          | ((with_reducible refine at_bi ?_); refine i_len _ rfl rfl (v := vi) rfl (hs0.out.ext (hOw.out.ext.trans hX)) ?_)
          | fail) <;> (try simp only [Act.put, List.setIfInBounds_toArray, List.set_cons_zero, List.set_cons_succ]))
        go_loopw [20, 99] (fun y j wr => ∃ c : Nat, j = .int .i64 c ∧ c ≤ skip.length ∧ y = .bool (decide (t.id ∈ skip.take c)) ∧ wr = w14) (fun _ j _ => skip.length - (RowKit.intOf j).toNat)
        case atStart => exact ⟨0, rfl, Nat.zero_le _, by simp, rfl⟩
        case round =>
          obtain ⟨c, rfl, hc, rfl, rfl⟩ := hrel
          by_cases hgc : skip.length ≤ c
          rotate_left
          · have hlc : c < skip.length := by omega
            have t7 : decide (c < skip.length) = true := by simpa using hlc
            obtain ⟨x, hx0⟩ : ∃ x, skip[c] = x := ⟨_, rfl⟩
            have hin := in_take (n := t.id) (show skip[c]? = some x from by rw [List.getElem?_eq_getElem hlc, hx0])
            have hx := hide_ hx0
            have hlc' := hide_ hlc
            have hcb : c < 9223372036854775807 := by omega
            obtain ⟨y, hy⟩ : ∃ y, decide (t.id ∈ skip.take c) = y := ⟨_, rfl⟩
            rw [hy] at hin ⊢
            clear hgc hx0 hy
            cases y
            all_goals
              have hin' := hide_ hin
              clear hin
              go_wp2_with ((first
                | ((with_reducible refine at_idx ?_); refine i_idx _ _ c rfl rfl rfl (hs0.out.ext (hOw.out.ext.trans hX)) rfl hlc'.out ?_; intro ad had; rw [hx.out] at had)
                | ((with_reducible refine at_field ?_); (try refine w_yes _ _ _ rfl rfl rfl ?_); refine w_field Try.stTx _ _ _ rfl rfl rfl (by omega) ?_)
                | ((with_reducible refine at_load ?_); (try refine w_yes _ _ _ rfl rfl rfl ?_); refine w_fload (.tmp 106) rfl rfl rfl f19 rfl (agg_of (by kernel_rfl)) ?_)
                | fail) <;> (try simp only [Act.put, List.setIfInBounds_toArray, List.set_cons_zero, List.set_cons_succ]))
              go_roundw
              case rel => exact ⟨c + 1, by go_num, hlc'.out, by rw [hin'.out]; simp, trivial⟩
              case measure => have := hlc'.out; simp [RowKit.intOf]; omega
          obtain rfl : c = skip.length := by omega
          have t7 : decide (skip.length < skip.length) = false := by simp
          rw [List.take_length]
          obtain ⟨y, hy⟩ : ∃ y, decide (t.id ∈ skip) = y := ⟨_, rfl⟩
          rw [hy]
          have hy' := hide_ hy
          clear hgc hc hy
          go_wp2_with ((first
            | ((with_reducible refine at_bi ?_); refine w_rlen Try.elTx _ rfl rfl (v := v11) rfl (hr11n.out.ext TxR.stays hX) ?_)
            | fail) <;> (try simp only [Act.put, List.setIfInBounds_toArray, List.set_cons_zero, List.set_cons_succ]))
          have hXa := hide_ hX
          go_loopw [113] (fun i wr => ∃ b : Nat, i = .int .i64 b ∧ b ≤ Z.length ∧ Ext w13 wr ∧ Fs wr g19 [.int .i64 t.id, .int .i64 t.fee]) (fun i _ => Z.length - (RowKit.intOf i).toNat)
          case atStart => exact ⟨0, rfl, Nat.zero_le _, hX, f19⟩
          case round =>
            clear hX f19
            obtain ⟨b, rfl, hb, hX, f19⟩ := hrel
            by_cases hgb : Z.length ≤ b
            · obtain rfl : b = Z.length := by omega
              have t8 : decide (Z.length < Z.length) = false := by simp
              clear hgb hb
              cases y
              · have t9 : decide ((Z.length : Int) < many) = false := decide_eq_false (by have h1 := hlfu.out t htm.out (by have := hy'.out; simpa using this); omega)
                go_wp2_with ((first
                  | ((with_reducible refine at_bi ?_); (try refine w_yes _ _ _ rfl rfl rfl ?_); refine w_rlen Try.elTx _ rfl rfl (v := v11) rfl (hr11n.out.ext TxR.stays hX) ?_)
                  | fail) <;> (try simp only [Act.put, List.setIfInBounds_toArray, List.set_cons_zero, List.set_cons_succ]))
                go_roundw
                case rel => exact ⟨a + 1, by go_num, hla'.out, hX⟩
                case measure => have := hla'.out; simp [RowKit.intOf]; omega
              · go_wp2
                go_roundw
                case rel => exact ⟨a + 1, by go_num, hla'.out, hX⟩
                case measure => have := hla'.out; simp [RowKit.intOf]; omega
            have hlb : b < Z.length := by omega
            have t8 : decide (b < Z.length) = true := by simpa using hlb
            obtain ⟨u, hu0⟩ : ∃ u, Z[b]? = some u := ⟨_, List.getElem?_eq_getElem hlb⟩
            have hum := List.mem_of_getElem? hu0
            have hu := hide_ hu0
            have hlb' := hide_ hlb
            have hbb : b ≤ 16 := by omega
            have c1 : (u.id == t.id) = false := by rw [beq_eq_false_iff_ne]; exact (hlin.out t htm.out).2 u hum
            cases y
            · have hls := hide_ (hlls.out t u htm.out (by have := hy'.out; simpa using this) hum)
              clear hgb hb hlb hu0 hum
              go_wp2_with ((first
                | ((try refine w_yes _ _ _ rfl rfl rfl ?_); go_at_call 20; refine (refLess_any u t _).mono ?_; rintro e w4 ⟨rfl, hx⟩; rw [hls.out]; replace f19 := f19.ext hx; replace f24 := f24.ext hx; replace hX := hX.trans hx; clear hx)
                | ((with_reducible refine at_idx ?_); refine w_tidx Try.elTx _ _ b rfl rfl rfl rfl hr11n.out hX hu.out ?_; intro pa hrow; replace hrow := hide_ hrow)
                | ((with_reducible refine at_load ?_); refine w_pload Try.stTx _ rfl rfl rfl hrow.out rfl ?_)
                | ((with_reducible refine at_alloc ?_); refine w_alloc Try.stTx rfl rfl ?_; intro g24 w2 hg24 hx2 f24)
                | ((with_reducible refine at_store ?_); refine w_astore Try.stTx _ _ (us := [.int .i64 u.id, .int .i64 u.fee]) rfl rfl rfl rfl rfl f24 rfl rfl (by intro u hu; simp at hu; rcases hu with rfl | rfl <;> rfl) ?_; intro w3 hm3 f8; replace hx2 := hm3.after hx2 (fun i hi => by subst hi; exact hg24); replace f24 := f8; replace f19 := f19.ext hx2; replace hX := hX.trans hx2; clear hm3 f8 hx2 hg24)
                | ((with_reducible refine at_field ?_); refine w_field Try.stTx _ _ _ rfl rfl rfl (by omega) ?_)
                | ((with_reducible refine at_load ?_); refine w_fload (.tmp 117) rfl rfl rfl f24 rfl (agg_of (by kernel_rfl)) ?_)
                | ((with_reducible refine at_load ?_); refine w_fload (.tmp 119) rfl rfl rfl f19 rfl (agg_of (by kernel_rfl)) ?_)
                | ((with_reducible refine at_load ?_); (try refine w_yes _ _ _ rfl rfl rfl ?_); refine w_aload Try.stTx (.tmp 24) rfl rfl rfl f24 rfl ?_)
                | ((with_reducible refine at_load ?_); (try refine w_yes _ _ _ rfl rfl rfl ?_); refine w_aload Try.stTx (.tmp 19) rfl rfl rfl f19 rfl ?_)
                | fail) <;> (try simp only [Act.put, List.setIfInBounds_toArray, List.set_cons_zero, List.set_cons_succ]))
              go_roundw
              case rel => exact ⟨b + 1, by go_num, hlb'.out, hX, f19⟩
              case measure => have := hlb'.out; simp [RowKit.intOf]; omega
            · clear hgb hb hlb hu0 hum
              go_wp2_with ((first
                | ((with_reducible refine at_idx ?_); refine w_tidx Try.elTx _ _ b rfl rfl rfl rfl hr11n.out hX hu.out ?_; intro pa hrow; replace hrow := hide_ hrow)
                | ((with_reducible refine at_load ?_); refine w_pload Try.stTx _ rfl rfl rfl hrow.out rfl ?_)
                | ((with_reducible refine at_alloc ?_); refine w_alloc Try.stTx rfl rfl ?_; intro g24 w2 hg24 hx2 f24)
                | ((with_reducible refine at_store ?_); refine w_astore Try.stTx _ _ (us := [.int .i64 u.id, .int .i64 u.fee]) rfl rfl rfl rfl rfl f24 rfl rfl (by intro u hu; simp at hu; rcases hu with rfl | rfl <;> rfl) ?_; intro w3 hm3 f8; replace hx2 := hm3.after hx2 (fun i hi => by subst hi; exact hg24); replace f24 := f8; replace f19 := f19.ext hx2; replace hX := hX.trans hx2; clear hm3 f8 hx2 hg24)
                | ((with_reducible refine at_field ?_); refine w_field Try.stTx _ _ _ rfl rfl rfl (by omega) ?_)
                | ((with_reducible refine at_load ?_); refine w_fload (.tmp 117) rfl rfl rfl f24 rfl (agg_of (by kernel_rfl)) ?_)
                | ((with_reducible refine at_load ?_); refine w_fload (.tmp 119) rfl rfl rfl f19 rfl (agg_of (by kernel_rfl)) ?_)
                | fail) <;> (try simp only [Act.put, List.setIfInBounds_toArray, List.set_cons_zero, List.set_cons_succ]))
              go_roundw
              case rel => exact ⟨b + 1, by go_num, hlb'.out, hX, f19⟩
              case measure => have := hlb'.out; simp [RowKit.intOf]; omega

set_option maxRecDepth 100000 in
theorem mempoolPicks_lifted (os : Os) (started : os.Started) (H : Type) (enc : TypeId × Value → H) :
    ReturnsInHanded {} Try.checked os 6 .any (Rows.mempoolPicksSpec.pre6 enc Try.prog Try.f6 Rows.mempoolPicksRow.domain false) (Rows.mempoolPicksSpec.post enc Try.prog Try.f6 false true false false) := by
  refine law_lifted (s := Rows.mempoolPicksSpec) (conds := Rows.mempoolPicksRow.domain) Try.func6 (by kernel_rfl) rfl (fun H ds h => by
      rw [show Try.f6.params.size = 3 from rfl] at h
      match ds, h with
      | [d0, d1, d2], _ => rfl) rfl rfl (by decide +kernel) os started H enc
    (ChangeSpec.witness6 (enc := enc) (C := Try.checked) false ⟨#[], #[.slice none 0 0, .int .i64 0, .slice none 0 0], []⟩ 8 (by kernel_rfl) (by kernel_rfl) (by kernel_rfl) (by kernel_rfl)) ?_
  intro W base args ds p hval hA hsz _
  have hp : Try.f6.params.toList = [23, 3, 32] := rfl
  rw [hp] at hA hsz
  obtain ⟨v0, v1, v2, d0, d1, d2, p0, p1, p2, rfl, rfl, rfl, h0, h1, h2⟩ := trodAll_three hA
  obtain ⟨l0, k0, m0⟩ := arg_TxsL hsz (j := 0) rfl rfl (hval 0 23 v0 rfl rfl) h0
  obtain ⟨a1, rfl, b1, c1⟩ := arg_int (hval 1 3 v1 rfl rfl) h1
  obtain ⟨l2, a2, b2, c2⟩ := arg_ints hsz (j := 2) rfl rfl (hval 2 32 v2 rfl rfl) h2
  exact mempoolPicks_law v0 l0 a1 v2 l2 W k0 ⟨b1, c1⟩ a2 b2

theorem mempoolPicks_holds : Rows.MempoolPicksSaid :=
  OpenClaim.holds_of_wide 6 Try.f6 rfl rfl rfl rfl rfl rfl rfl ⟨rfl, rfl, rfl, rfl, rfl⟩ rfl rfl rfl rfl rfl (by kernel_rfl) Try.func6 (by kernel_rfl)
    (of_decide_eq_true (by kernel_rfl)) (by unfold Func.isWrapper; first | (rw [if_pos (by decide +kernel)]; kernel_rfl) | (rw [if_neg (by decide +kernel)]; exact ⟨rfl, rfl⟩))
    (fun os started H enc _ => mempoolPicks_lifted os started H enc)
#print axioms mempoolPicks_holds

end Go.Proofs.Ytdacclcaopmalaa
