/- The statement ChainGrows: in slots that rise, with one winner each at most that makes its block, the chain is one way; what is confirmed never goes back. No condition. -/
import Derived.Test.YtpnbkgeglgiihaaCLa
import Derived.Test.YtpnbkgeglgiihaaChM
import Derived.Test.YtpnbkgeglgiihaaLotF
import Derived.Test.YtpnbkgeglgiihaaLTG
import Derived.Test.YtpnbkgeglgiihaaTLA
import Derived.Test.YtpnbkgeglgiihaaArgI
namespace Go.Proofs.Ytpnbkgeglgiihaa
set_option maxRecDepth 100000
open Go.RowKit Go.ChangeShapes Go.WideShapes Go.ChangeAt

theorem Line.eN_i64 {K : List BlkD} (h : Line K) (i : Nat) : I64 (eN K i) := by
  unfold eN
  cases hg : ((K.map BlkD.name).take i).getLast? with
  | none => exact ⟨by simp, by simp⟩
  | some x =>
    have hx := List.mem_of_mem_take (List.mem_of_getLast? hg)
    obtain ⟨b, hb, rfl⟩ := List.mem_map.1 hx
    exact (h.good.uq.right b hb).i64
theorem raw_of {b : BlkD} (h : b.Right) : b.Raw := by
  obtain ⟨⟨h1, h2⟩, ⟨h3, h4⟩, ⟨h5, h6⟩, h7, h8⟩ := h
  have hp : -9223372036854775808 ≤ b.parent ∧ b.parent ≤ 9223372036854775807 := by
    rcases h7 with h7 | ⟨⟨p1, p2, p3, p4⟩, h9⟩
    · omega
    · omega
  constructor <;> first | exact fun t ht => (h8.right t ht).raw | (constructor <;> omega) | omega

set_option maxRecDepth 100000 in
set_option maxHeartbeats 6400000 in
theorem chainGrows_law (v0 : Value) (l0 : List Int) (deep : Int) (W : World) (h00 : Ints W v0 l0) (hI0 : I64s l0) (hdI0 : I64 deep) :
    Calls Try.prog 5 #[v0, .int .i64 deep] W fun e w' => e = .returned (.bool true) ∧ Ext W w' := by
  refine calls_keep ?_
  have h0 := hide_ h00
  have hI := hide_ hI0
  have hdI := hide_ hdI0
  obtain ⟨AL, hAL0⟩ : ∃ AL : List Int, AL = [0, 1, 2, 3, 4, 5, 6] := ⟨_, rfl⟩
  have hAL := hide_ hAL0
  clear h00 hI0 hdI0 hAL0
  by_cases hD0 : DrOk l0
  rotate_left
  · have e0 := hide_ (show lchk l0 = 101 from if_neg hD0)
    clear hD0
    go_enter Try.func5, Try.ntmps5
    go_wp2_with ((first
      | (go_at_call 10; refine (chainAlive_any _).mono ?_; rintro e w2 ⟨rfl, hX⟩)
      | ((with_reducible refine at_lit ?_); refine w_new Try.elI (o := ⟨some 20, _, _, _, _, _⟩) (i64s [0, 1, 2, 3, 4, 5, 6]) rfl rfl rfl (i64s_cells _) rfl (by omega) ?_; intro va w3 hx ho3; have ia : Ints _ va AL := by { rw [hAL.out]; exact OwnI.ints ho3 }; replace ia := hide_ ia; replace hX := hX.trans hx; clear ho3 hx)
      | (go_at_call 28; refine (Single_free (h0.out.ext hX) ia.out).mono ?_; rintro e w4 ⟨bs, rfl, hx⟩; replace hX := hX.trans hx; clear hx ia; cases bs)
      | (go_at_call 29; refine (Check_any (h0.out.ext hX) hI.out).mono ?_; rintro e w4 ⟨rfl, hx⟩; rw [e0.out]; replace hX := hX.trans hx; clear hx)
      | fail) <;> (try simp only [Act.put, List.setIfInBounds_toArray, List.set_cons_zero, List.set_cons_succ]))
    all_goals (go_ret; exact Keep.intro ⟨rfl, hX⟩)
  have e0 := hide_ (show lchk l0 = 0 from if_pos hD0)
  have hD := hide_ hD0
  obtain ⟨sg, hsg0⟩ : ∃ sg, sgl l0 AL = sg := ⟨_, rfl⟩
  have hsg := hide_ hsg0
  cases sg
  · clear hD0 hsg0
    go_enter Try.func5, Try.ntmps5
    go_wp2_with ((first
      | (go_at_call 10; refine (chainAlive_any _).mono ?_; rintro e w2 ⟨rfl, hX⟩)
      | ((with_reducible refine at_lit ?_); refine w_new Try.elI (o := ⟨some 20, _, _, _, _, _⟩) (i64s [0, 1, 2, 3, 4, 5, 6]) rfl rfl rfl (i64s_cells _) rfl (by omega) ?_; intro va w3 hx ho3; have ia : Ints _ va AL := by { rw [hAL.out]; exact OwnI.ints ho3 }; replace ia := hide_ ia; replace hX := hX.trans hx; clear ho3 hx)
      | (go_at_call 28; refine (Single_any hD.out (h0.out.ext hX) ia.out).mono ?_; rintro e w4 ⟨rfl, hx⟩; rw [hsg.out]; replace hX := hX.trans hx; clear hx ia)
      | fail) <;> (try simp only [Act.put, List.setIfInBounds_toArray, List.set_cons_zero, List.set_cons_succ]))
    go_ret
    exact Keep.intro ⟨rfl, hX⟩
  cases td1 : decide (deep < 0)
  rotate_left
  · clear hD0 hsg0
    go_enter Try.func5, Try.ntmps5
    go_wp2_with ((first
      | (go_at_call 10; refine (chainAlive_any _).mono ?_; rintro e w2 ⟨rfl, hX⟩)
      | ((with_reducible refine at_lit ?_); refine w_new Try.elI (o := ⟨some 20, _, _, _, _, _⟩) (i64s [0, 1, 2, 3, 4, 5, 6]) rfl rfl rfl (i64s_cells _) rfl (by omega) ?_; intro va w3 hx ho3; have ia : Ints _ va AL := by { rw [hAL.out]; exact OwnI.ints ho3 }; replace ia := hide_ ia; replace hX := hX.trans hx; clear ho3 hx)
      | (go_at_call 28; refine (Single_any hD.out (h0.out.ext hX) ia.out).mono ?_; rintro e w4 ⟨rfl, hx⟩; rw [hsg.out]; replace hX := hX.trans hx; clear hx ia)
      | (go_at_call 29; refine (Check_any (h0.out.ext hX) hI.out).mono ?_; rintro e w4 ⟨rfl, hx⟩; rw [e0.out]; replace hX := hX.trans hx; clear hx)
      | fail) <;> (try simp only [Act.put, List.setIfInBounds_toArray, List.set_cons_zero, List.set_cons_succ]))
    go_ret
    exact Keep.intro ⟨rfl, hX⟩
  cases td2 : decide (10 < deep)
  rotate_left
  · clear hD0 hsg0
    go_enter Try.func5, Try.ntmps5
    go_wp2_with ((first
      | (go_at_call 10; refine (chainAlive_any _).mono ?_; rintro e w2 ⟨rfl, hX⟩)
      | ((with_reducible refine at_lit ?_); refine w_new Try.elI (o := ⟨some 20, _, _, _, _, _⟩) (i64s [0, 1, 2, 3, 4, 5, 6]) rfl rfl rfl (i64s_cells _) rfl (by omega) ?_; intro va w3 hx ho3; have ia : Ints _ va AL := by { rw [hAL.out]; exact OwnI.ints ho3 }; replace ia := hide_ ia; replace hX := hX.trans hx; clear ho3 hx)
      | (go_at_call 28; refine (Single_any hD.out (h0.out.ext hX) ia.out).mono ?_; rintro e w4 ⟨rfl, hx⟩; rw [hsg.out]; replace hX := hX.trans hx; clear hx ia)
      | (go_at_call 29; refine (Check_any (h0.out.ext hX) hI.out).mono ?_; rintro e w4 ⟨rfl, hx⟩; rw [e0.out]; replace hX := hX.trans hx; clear hx)
      | fail) <;> (try simp only [Act.put, List.setIfInBounds_toArray, List.set_cons_zero, List.set_cons_succ]))
    go_ret
    exact Keep.intro ⟨rfl, hX⟩
  have hd0 : 0 ≤ deep := by have : ¬ deep < 0 := by simpa using td1
                            omega
  have hd10 : deep ≤ 10 := by have : ¬ 10 < deep := by simpa using td2
                              omega
  have hl200 : l0.length ≤ 200 := hD0.1
  have hone := hide_ (fun (k : Nat) (hk : k < l0.length) => sgl_one hsg0 hk)
  have hbig := hide_ (show (([] : List Int).length + l0.length) * 8 ≤ 140737488355328 from by simp; omega)
  clear hD0 hsg0
  go_enter Try.func5, Try.ntmps5
  go_wp2_with ((first
    | (go_at_call 10; refine (chainAlive_any _).mono ?_; rintro e w2 ⟨rfl, hX⟩)
    | ((with_reducible refine at_lit ?_); refine w_new Try.elI (o := ⟨some 20, _, _, _, _, _⟩) (i64s [0, 1, 2, 3, 4, 5, 6]) rfl rfl rfl (i64s_cells _) rfl (by omega) ?_; intro va w3 hx ho3; have ia : Ints _ va AL := by { rw [hAL.out]; exact OwnI.ints ho3 }; replace ia := hide_ ia; replace hX := hX.trans hx; clear ho3 hx)
    | (go_at_call 28; refine (Single_any hD.out (h0.out.ext hX) ia.out).mono ?_; rintro e w4 ⟨rfl, hx⟩; rw [hsg.out]; replace hX := hX.trans hx; clear hx ia)
    | (go_at_call 29; refine (Check_any (h0.out.ext hX) hI.out).mono ?_; rintro e w4 ⟨rfl, hx⟩; rw [e0.out]; replace hX := hX.trans hx; clear hx)
    | ((with_reducible refine at_lit ?_); refine w_new Try.elI (o := ⟨some 36, _, _, _, _, _⟩) (i64s []) rfl rfl rfl (i64s_cells _) rfl (by omega) ?_; intro v5 w5 hx3 o5; replace o5 : OwnI _ w5 v5 [] := o5; have hs5 := hx3.size)
    | ((with_reducible refine at_bi ?_); refine appi _ _ rfl rfl rfl rfl o5 (h0.out.ext (hX.trans hx3)) hbig.out hs5 ?_; intro v9 w9 o9 hb9 hg9 hg9'; rw [List.nil_append] at o9; have i8 := o9.ints; have hx4 := hx3.trans' hb9; replace hX := hX.trans hx4; clear hb9 hg9 hg9' hx3 hx4 hs5 o5 o9)
    | (go_at_call 8; refine (CNew_any (deep := deep) i8 hD.out hdI.out).mono ?_; rintro e w1 ⟨q, p, dv, H, rfl, hC, hx, hq, hH⟩; have hO : Out W (CQ H q) w1 := ⟨hX.trans hx, fun k hk => hk.elim (fun e => Nat.le_trans hX.size (hH k e)) (fun e => e ▸ Nat.le_trans hX.size hq)⟩; clear hX hx hq hH i8)
    | fail) <;> (try simp only [Act.put, List.setIfInBounds_toArray, List.set_cons_zero, List.set_cons_succ]))
  go_loopw [6, 7, 8] (fun u6 u7 u8 wr => ∃ (k : Nat) (H : Nat → Prop) (K : List BlkD) (M : Nat) (i : Nat) (la : Int), u8 = .int .i64 ((k : Int) + 1) ∧ k ≤ l0.length ∧ u6 = .int .i64 (M : Nat) ∧ u7 = .int .i64 la ∧ Hid (K.length = M) ∧ Hid (la = eN K i) ∧ Hid (i ≤ K.length - deep.toNat) ∧ ChC H wr q p dv l0 deep (k : Int) K [] ∧ Hid (Line K) ∧ Hid (∀ b ∈ K, b.slot ≤ k) ∧ M ≤ k ∧ Out W (CQ H q) wr) (fun _ _ u8 _ => l0.length + 1 - (RowKit.intOf u8).toNat)
  case atStart => exact ⟨0, H, [], 0, 0, 0, rfl, Nat.zero_le _, rfl, rfl, hide_ rfl, hide_ (by simp [eN]), hide_ (Nat.zero_le _), hC, hide_ Line.nil, hide_ (by simp), Nat.le_refl _, hO⟩
  case round =>
    clear hC hO
    obtain ⟨k, H, K, M, i, la, rfl, hk, rfl, rfl, hM, hla, hi, hC, hL, hsl, hMk, hO⟩ := hrel
    by_cases hkl : k < l0.length
    rotate_left
    · obtain rfl : k = l0.length := by omega
      have t2 : decide ((l0.length : Int) + 1 ≤ (l0.length : Int)) = false := decide_eq_false (by omega)
      obtain ⟨T, hT0⟩ : ∃ T, TrS.tip K = T := ⟨_, rfl⟩
      have hT := hide_ hT0
      have hTI := hide_ (show I64 T from hT0 ▸ hC.tipI)
      have hh := hide_ (show TrS.height K T = (M : Int) from by rw [← hT0, hL.out.high, hM.out])
      clear hT0 hkl
      go_wp2_with ((first
        | (go_at_call 23; refine (CTree_any hC).mono ?_; rintro e w4 ⟨rfl, hx⟩; replace hC := hC.ext hx; replace hO := hO.extend hx; clear hx)
        | (go_at_call 24; refine (Tip_any hC.tr).mono ?_; rintro e w4 ⟨rfl, hx⟩; rw [hT.out]; replace hC := hC.ext hx; replace hO := hO.extend hx; clear hx)
        | (go_at_call 31; refine (Height_any hC.tr hTI.out).mono ?_; rintro e w4 ⟨rfl, hx⟩; rw [hh.out]; replace hC := hC.ext hx; replace hO := hO.extend hx; clear hx)
        | ((with_reducible refine at_bi ?_); (try refine w_yes _ _ _ rfl rfl rfl ?_); refine i_len _ rfl rfl (v := v0) rfl (h0.out.ext hO.ext) ?_)
        | fail) <;> (try simp only [Act.put, List.setIfInBounds_toArray, List.set_cons_zero, List.set_cons_succ]))
      go_ret
      exact Keep.intro ⟨rfl, hO.ext⟩
    have t2 : decide ((k : Int) + 1 ≤ (l0.length : Int)) = true := decide_eq_true (by omega)
    obtain ⟨Q, hQ0⟩ : ∃ Q, wns l0 ((k : Int) + 1) = Q := ⟨_, rfl⟩
    have hQ := hide_ hQ0
    have hQ1 : Q.length ≤ 1 := hQ0 ▸ hone.out k hkl
    have hQw := hide_ (show ∀ x ∈ Q, win l0 ((k : Int) + 1) x = true from fun x hx => wns_win (hQ0 ▸ hx))
    have hmx := hide_ (show max (k : Int) ((k : Int) + 1) = (k : Int) + 1 from by omega)
    have hkl' := hide_ hkl
    clear hQ0 hkl
    go_wp2_with ((first
      | (go_at_call 14; refine (CNext_any (n := (k : Int) + 1) hC ⟨by omega, by omega⟩).mono ?_; rintro e w6 ⟨rfl, hC2, hm⟩; rw [hmx.out] at hC2; replace hC := hC2; replace hO := hO.nx hm; clear hC2 hm)
      | (go_at_call 30; refine (Winners_own (s := (k : Int) + 1) hD.out (h0.out.ext hO.ext)).mono ?_; rintro e w4 ⟨vw, rfl, ow, hx⟩; rw [hQ.out] at ow; have hS := ow.safe hC.lt; replace hC := hC.ext hx; replace hO := hO.extend hx; clear hx ow)
      | ((with_reducible refine at_bi ?_); (try refine w_yes _ _ _ rfl rfl rfl ?_); refine i_len _ rfl rfl (v := v0) rfl (h0.out.ext hO.ext) ?_)
      | ((with_reducible refine at_bi ?_); refine i_len _ rfl rfl (v := vw) rfl hS.sl ?_)
      | fail) <;> (try simp only [Act.put, List.setIfInBounds_toArray, List.set_cons_zero, List.set_cons_succ]))
    go_loopw [6, 54] (fun u6 u54 wx => ∃ (j : Nat) (H : Nat → Prop) (K : List BlkD) (M : Nat), u54 = .int .i64 (j : Nat) ∧ j ≤ Q.length ∧ u6 = .int .i64 (M : Nat) ∧ Hid (K.length = M) ∧ Hid (la = eN K i) ∧ Hid (i ≤ K.length - deep.toNat) ∧ ChC H wx q p dv l0 deep ((k : Int) + 1) K [] ∧ Hid (Line K) ∧ Hid (∀ b ∈ K, b.slot ≤ k + j) ∧ M ≤ k + j ∧ Safe H wx vw (i64s Q) ∧ Out W (CQ H q) wx) (fun _ u54 _ => Q.length - (RowKit.intOf u54).toNat)
    case atStart => exact ⟨0, H, K, M, rfl, Nat.zero_le _, rfl, hM, hla, hi, hC, hL, hide_ (fun b hb => by have := hsl.out b hb; omega), hMk, hS, hO⟩
    case round =>
      clear hC hO hS hM hla hi hL hsl hMk
      obtain ⟨j, H, K, M, rfl, hj, rfl, hM, hla, hi, hC, hL, hsl, hMk, hS, hO⟩ := hrel
      by_cases hjl : j < Q.length
      rotate_left
      · obtain rfl : j = Q.length := by omega
        have t3 : decide (Q.length < Q.length) = false := by simp
        obtain ⟨J, hJ0⟩ : ∃ J, K.length - deep.toNat = J := ⟨_, rfl⟩
        obtain ⟨nw, hnw0⟩ : ∃ nw, eN K J = nw := ⟨_, rfl⟩
        obtain ⟨P, hP0⟩ : ∃ P, TrS.path K nw = P := ⟨_, rfl⟩
        obtain ⟨mx, hmx0⟩ : ∃ mx : Int, mx = max 0 ((M : Int) - deep) := ⟨_, rfl⟩
        have hML := hM.out
        have hMi : i ≤ J := by have := hi.out; omega
        have hb1 := hide_ (show backN (TrS.path K (TrS.tip K)) deep = nw from by rw [hL.out.way, back_eN, hJ0, hnw0])
        have hnI := hide_ (show I64 nw from hnw0 ▸ hL.out.eN_i64 J)
        have hlI := hide_ (show I64 la from by rw [hla.out]; exact hL.out.eN_i64 i)
        have hP := hide_ hP0
        have hPl := hide_ (show ((P.length : Nat) : Int) = mx from by
          rw [← hP0, ← hnw0, hL.out.path J (by omega), List.length_take, List.length_map, hmx0]
          omega)
        have hcm := hide_ (show TrS.common K nw la = la from by rw [← hnw0, hla.out]; exact hL.out.common hMi (by omega))
        have hm0 := hide_ hmx0
        have hJ := hide_ (show J ≤ K.length - deep.toNat from by omega)
        have hnw := hide_ hnw0.symm
        have hM2 : M ≤ k + 1 := by omega
        have hsl2 := hide_ (show ∀ b ∈ K, b.slot ≤ ((k + 1 : Nat) : Int) from fun b hb => by have := hsl.out b hb; omega)
        clear hJ0 hnw0 hP0 hmx0 hML hMi hjl hj
        go_wp2_with ((first
          | (go_at_call 11; refine (CConf_any hC).mono ?_; rintro e w4 ⟨rfl, hx⟩; rw [hb1.out]; replace hC := hC.ext hx; replace hO := hO.extend hx; clear hx)
          | (go_at_call 23; refine (CTree_any hC).mono ?_; rintro e w4 ⟨rfl, hx⟩; (try replace o16 := Sl.ext o16 hx); replace hC := hC.ext hx; replace hO := hO.extend hx; clear hx)
          | (go_at_call 32; refine (Path_any hC.tr hnI.out).mono ?_; rintro e w4 ⟨v16, rfl, o16, hx⟩; rw [hP.out] at o16; replace o16 := OwnI.ints o16; replace hC := hC.ext hx; replace hO := hO.extend hx; clear hx)
          | (go_at_call 33; refine (Common_any hC.tr hnI.out hlI.out).mono ?_; rintro e w4 ⟨rfl, hx⟩; rw [hcm.out]; replace o16 := Sl.ext o16 hx; replace hC := hC.ext hx; replace hO := hO.extend hx; clear hx)
          | ((with_reducible refine at_bi ?_); (try refine w_yes _ _ _ rfl rfl rfl ?_); refine i_len _ rfl rfl (v := v16) rfl o16 ?_; rw [hPl.out])
          | ((with_reducible refine at_bi ?_); (try refine w_yes _ _ _ rfl rfl rfl ?_); refine w_max _ _ mx hm0.out rfl rfl rfl rfl ?_)
          | fail) <;> (try simp only [Act.put, List.setIfInBounds_toArray, List.set_cons_zero, List.set_cons_succ]))
        go_roundw
        case rel => exact ⟨k + 1, H, K, M, J, nw, by go_num, hkl'.out, rfl, rfl, hM, hnw, hJ, hC, hL, hsl2, hM2, hO⟩
        case measure => have := hkl'.out; simp [RowKit.intOf]; omega
      obtain rfl : j = 0 := by omega
      have t3 : decide (0 < Q.length) = true := by simpa using hjl
      obtain ⟨x, hx0⟩ : ∃ x, Q[0] = x := ⟨_, rfl⟩
      have hxx := hide_ hx0
      have hML := hM.out
      obtain ⟨b, hmk, hbs, hbp, hbt, hbr, hok, htk, hadd, hL2, hht⟩ := hL.out.step hD.out (hQw.out x (hx0 ▸ List.getElem_mem hjl)) (fun b hb => by have := hsl.out b hb; omega) (by omega)
      obtain ⟨e1, e2, e3⟩ := tk_yes htk
      rw [hadd] at e1 e2
      have k1 := hide_ (show mkD l0 ((k : Int) + 1) x K [] = b from by rw [mkD, if_pos hok, hmk])
      have k2 := hide_ hok
      have k3 := hide_ e1
      have k4 := hide_ e2
      have k5 := hide_ e3
      have hraw := hide_ (raw_of hbr)
      have hbp' := hide_ (show TrS.tip K = b.parent from hbp.symm)
      have hTI := hide_ (show I64 b.name from hbr.i64)
      have hL2' := hide_ hL2
      have hM3 := hide_ (show (K ++ [b]).length = M + 1 from by simp; omega)
      have hla2 := hide_ (show la = eN (K ++ [b]) i from by rw [hla.out, eN_more (by have := hi.out; omega)])
      have hi2 := hide_ (show i ≤ (K ++ [b]).length - deep.toNat from by have := hi.out; rw [hM3.out]; omega)
      have hsl2 := hide_ (show ∀ c ∈ K ++ [b], c.slot ≤ (k : Int) + ((1 : Nat) : Int) from fun c hc => by
        rcases List.mem_append.1 hc with h | h
        · have := hsl.out c h; omega
        · rw [List.mem_singleton] at h; subst h; omega)
      have hht' := hide_ (show TrS.height (K ++ [b]) b.name = (M : Int) + 1 from by rw [hht, hML])
      have hjl' := hide_ hjl
      have hM4 : M ≤ 201 := by omega
      clear hx0 hmk hbs hbp hbt hbr hok htk hadd hL2 hht e1 e2 e3 hML
      go_wp2_with ((first
        | (go_at_call 16; refine (CMake_any (me := x) hC (OwnT.nil 0 _).recs).mono ?_; rintro e w5 ⟨u, rfl, o4, hx⟩; rw [k1.out] at o4; rw [k1.out, k2.out]; have hnu := hide_ (show ∀ g, u.ownBlock = some g → ¬ H g from fun g hg h => by have h1 := o4.new g hg; have h2 := hC.lt g h; omega); have one4 := blk_one (a := b.slot) (b := b.miner) (c := b.var) (d := b.parent) o4.recs.one'; replace hC := hC.ext hx; replace hO := hO.extend hx; replace hS := hS.ext hx; clear hx)
        | ((with_reducible refine at_idx ?_); refine i_idx _ _ 0 rfl rfl (v := vw) rfl hS.sl rfl hjl'.out ?_; intro ad had; rw [hxx.out] at had)
        | ((with_reducible refine at_alloc ?_); refine w_alloc Try.stBlk rfl rfl ?_; intro g11 w2 hg2 hx2 f2; have hn11 := hide_ (show ¬ H g11 from fun h => by have := hC.lt g11 h; omega))
        | ((with_reducible refine at_store ?_); refine w_astore Try.stBlk _ _ (us := bRow b u) rfl rfl rfl rfl rfl f2 rfl rfl one4 ?_; intro w3 hm3 f3; have f11 : Fs w3 g11 (bRow b u) := f3; replace hx2 := hm3.after hx2 (fun i hi => by subst hi; exact hg2); replace hC := hC.ext hx2; replace hO := hO.extend hx2; replace hS := hS.ext hx2; replace o4 := o4.ext hx2; clear hm3 f3 hx2 hg2 f2)
        | fail) <;> (try simp only [Act.put, List.setIfInBounds_toArray, List.set_cons_zero, List.set_cons_succ]))
      have hTr := hide_ (fun w' (h : Ext w3 w') => CTree_any (hC.ext h))
      have hTp := hide_ (fun w' (h : Ext w3 w') => hbp'.out ▸ Tip_any (hC.tr.ext h))
      have hX := Ext.refl w3
      refine wp_region_phx (by kernel_rfl) ?_; intro wd hxd; have F11 := f11.ext hxd
      refine Ph.rest 0 10 (by kernel_rfl) ?_
      refine LinL.step (s := (.val (.bool true))) [(12, none)] rfl (by kernel_rfl) (op_out 12 (.bool true) rfl (.inl rfl) rfl) ?_
      refine LinL.step (s := (.val (.bool false))) [(64, some 0)] rfl (by kernel_rfl) (op_runs rfl fun σ w' hx hg => ⟨(.bool false), by have h64 : σ.tmps.getD 64 undef = .bool true := hg.1; unfold Runs execOp; simp [Act.eval, h64, go_sem], rfl⟩) ?_
      refine LinL.step (s := (.val (.bool false))) [(65, some 0)] rfl (by kernel_rfl) (op_copy 65 0 (.val (.bool false)) rfl (.inl rfl) rfl) ?_
      refine LinL.step (s := (.val (.pointer (some ⟨g11, 3, none⟩)))) [(11, none), (66, some 0)] rfl (by kernel_rfl) (op_yes (reads := [(11, none)]) 2 66 0 false rfl rfl rfl (op_runs rfl fun σ w' hx hg => ⟨_, runs_field (ρ := σ.eval) (w := w') Try.stBlk (.tmp 11) g11 3 rfl hg.1 (by omega), rfl⟩)) ?_
      refine LinL.step (s := (.val (.int .i64 b.parent))) [(67, some 0), (66, some 1)] rfl (by kernel_rfl) (op_yes (reads := [(67, some 0)]) 2 66 1 false rfl rfl rfl (op_runs rfl fun σ w' hx hg => ⟨_, runs_fload (ρ := σ.eval) (w := w') (.tmp 67) rfl hg.1 (agg_of (by kernel_rfl) _) (F11.ext hx) rfl, rfl⟩)) ?_
      refine LinL.step (s := (.val (.pointer (some ⟨q, 0, none⟩)))) [(5, none), (66, some 2)] rfl (by kernel_rfl) (op_yes (reads := [(5, none)]) 2 66 2 false rfl rfl rfl (op_out 5 (.pointer (some ⟨q, 0, none⟩)) rfl (.inl rfl) rfl)) ?_
      refine LinL.step (s := (.val (.pointer (some ⟨p, 0, none⟩)))) [(69, some 0), (66, some 3)] rfl (by kernel_rfl) (op_yes (reads := [(69, some 0)]) 2 66 3 false rfl rfl rfl (op_calls 23 #[(.tmp 69)] #[22] (fun σ => #[.pointer (some ⟨q, 0, none⟩)]) rfl rfl (fun _ _ => rfl) fun σ w' hx hg => ⟨by have h69 : σ.tmps.getD 69 undef = .pointer (some ⟨q, 0, none⟩) := hg.1; simp only [List.map_toArray, List.map_cons, List.map_nil, Act.eval, h69], retH (hTr.out w' (hX.trans (hxd.trans hx)))⟩)) ?_
      refine LinL.step (s := (.val (.int .i64 b.parent))) [(70, some 0), (66, some 4)] rfl (by kernel_rfl) (op_yes (reads := [(70, some 0)]) 2 66 4 false rfl rfl rfl (op_calls 24 #[(.tmp 70)] #[53] (fun σ => #[.pointer (some ⟨p, 0, none⟩)]) rfl rfl (fun _ _ => rfl) fun σ w' hx hg => ⟨by have h70 : σ.tmps.getD 70 undef = .pointer (some ⟨p, 0, none⟩) := hg.1; simp only [List.map_toArray, List.map_cons, List.map_nil, Act.eval, h70], retH (hTp.out w' (hX.trans (hxd.trans hx)))⟩)) ?_
      refine LinL.step (s := (.val (.bool false))) [(68, some 3), (71, some 0), (66, some 5)] rfl (by kernel_rfl) (op_yes (reads := [(68, some 3), (71, some 0)]) 2 66 5 false rfl rfl rfl (op_runs rfl fun σ w' hx hg => ⟨(.bool false), by have h68 : σ.tmps.getD 68 undef = .int .i64 b.parent := hg.1; have h71 : σ.tmps.getD 71 undef = .int .i64 b.parent := hg.2.1; unfold Runs execOp; simp [Act.eval, h68, h71, go_sem], rfl⟩)) ?_
      refine LinL.step (s := (.val (.bool false))) [(66, some 6), (72, some 0)] rfl (by kernel_rfl) (op_runs rfl fun σ w' hx hg => ⟨_, runs_pick_f (ρ := σ.eval) (w := w') (.tmp 66) (.const (.bool true)) (.tmp 72) rfl hg.1 hg.2.1, rfl⟩) ?_
      intro wN hxN
      simp only [Fin', List.reverse_cons, List.reverse_nil, List.nil_append, List.cons_append, List.drop_zero, List.take_succ_cons, List.take_zero]
      simp only [Act.put, List.setIfInBounds_toArray, List.set_cons_zero, List.set_cons_succ]
      replace hX := hX.trans (hxd.trans hxN)
      replace hC := hC.ext hX
      replace hO := hO.extend hX
      replace hS := hS.ext hX
      replace o4 := o4.ext hX
      replace f11 := f11.ext hX
      clear hxd hxN F11 hX hTr hTp
      go_wp2_with ((first
        | (go_at_call 9; refine (CTake_any (b := b) hC (by simp) o4.recs hraw.out).mono ?_; rintro e w7 ⟨v13, H2, rfl, o13, hC2, hU⟩; rw [k3.out] at hC2; rw [k4.out] at o13; rw [k5.out]; replace o13 := OwnI.ints o13; replace hC := hC2; replace hO := hO.ch hU; replace hS := hS.upd hU; clear hC2 hU o4 f11 hn11 hnu)
        | ((with_reducible refine at_load ?_); refine w_aload Try.stBlk _ rfl rfl rfl f11 rfl ?_)
        | fail) <;> (try simp only [Act.put, List.setIfInBounds_toArray, List.set_cons_zero, List.set_cons_succ]))
      have hTr := hide_ (fun w' (h : Ext w7 w') => CTree_any (hC.ext h))
      have hHt := hide_ (fun w' (h : Ext w7 w') => hht'.out ▸ Height_any (hC.tr.ext h) hTI.out)
      have hX := Ext.refl w7
      refine wp_region_phx (by kernel_rfl) ?_; intro wd hxd; have J13 := Sl.ext o13 hxd
      refine Ph.rest 0 17 (by kernel_rfl) ?_
      refine LinL.step (s := (.val (.int .i64 0))) [(14, none)] rfl (by kernel_rfl) (op_out 14 (.int .i64 0) rfl (.inl rfl) rfl) ?_
      refine LinL.step (s := (.val (.bool false))) [(82, some 0)] rfl (by kernel_rfl) (op_runs rfl fun σ w' hx hg => ⟨(.bool false), by have h82 : σ.tmps.getD 82 undef = .int .i64 0 := hg.1; unfold Runs execOp; simp [Act.eval, h82, go_sem], rfl⟩) ?_
      refine LinL.step (s := (.val (.bool false))) [(83, some 0)] rfl (by kernel_rfl) (op_copy 83 0 (.val (.bool false)) rfl (.inl rfl) rfl) ?_
      refine LinL.step (s := (.val (v13))) [(13, none), (84, some 0)] rfl (by kernel_rfl) (op_yes (reads := [(13, none)]) 2 84 0 false rfl rfl rfl (op_out 13 (v13) rfl (.inl rfl) rfl)) ?_
      refine LinL.step (s := (.val (.int .i64 (([b.name]).length : Nat)))) [(85, some 0), (84, some 1)] rfl (by kernel_rfl) (op_yes (reads := [(85, some 0)]) 2 84 1 false rfl rfl rfl (op_runs rfl fun σ w' hx hg => ⟨_, runs_leni (ρ := σ.eval) (w := w') (.tmp 85) rfl hg.1 (J13.ext hx), rfl⟩)) ?_
      refine LinL.step (s := (.val (.bool false))) [(86, some 0), (84, some 2)] rfl (by kernel_rfl) (op_yes (reads := [(86, some 0)]) 2 84 2 false rfl rfl rfl (op_runs rfl fun σ w' hx hg => ⟨(.bool false), by have h86 : σ.tmps.getD 86 undef = .int .i64 (([b.name]).length : Nat) := hg.1; unfold Runs execOp; simp [Act.eval, h86, go_sem], rfl⟩)) ?_
      refine LinL.step (s := (.val (.bool false))) [(84, some 3), (87, some 0)] rfl (by kernel_rfl) (op_runs rfl fun σ w' hx hg => ⟨_, runs_pick_f (ρ := σ.eval) (w := w') (.tmp 84) (.const (.bool true)) (.tmp 87) rfl hg.1 hg.2.1, rfl⟩) ?_
      refine LinL.step (s := (.val (.bool false))) [(88, some 0)] rfl (by kernel_rfl) (op_copy 88 0 (.val (.bool false)) rfl (.inl rfl) rfl) ?_
      refine LinL.step (s := (.val (.pointer (some ⟨q, 0, none⟩)))) [(5, none), (89, some 0)] rfl (by kernel_rfl) (op_yes (reads := [(5, none)]) 7 89 0 false rfl rfl rfl (op_out 5 (.pointer (some ⟨q, 0, none⟩)) rfl (.inl rfl) rfl)) ?_
      refine LinL.step (s := (.val (.pointer (some ⟨p, 0, none⟩)))) [(90, some 0), (89, some 1)] rfl (by kernel_rfl) (op_yes (reads := [(90, some 0)]) 7 89 1 false rfl rfl rfl (op_calls 23 #[(.tmp 90)] #[22] (fun σ => #[.pointer (some ⟨q, 0, none⟩)]) rfl rfl (fun _ _ => rfl) fun σ w' hx hg => ⟨by have h90 : σ.tmps.getD 90 undef = .pointer (some ⟨q, 0, none⟩) := hg.1; simp only [List.map_toArray, List.map_cons, List.map_nil, Act.eval, h90], retH (hTr.out w' (hX.trans (hxd.trans hx)))⟩)) ?_
      refine LinL.step (s := (.val (v13))) [(13, none), (89, some 2)] rfl (by kernel_rfl) (op_yes (reads := [(13, none)]) 7 89 2 false rfl rfl rfl (op_out 13 (v13) rfl (.inl rfl) rfl)) ?_
      refine LinL.step (s := (Sp.ptr (.int .i64 (b.name)))) [(92, some 0), (89, some 3)] rfl (by kernel_rfl) (op_yes (reads := [(92, some 0)]) 7 89 3 false rfl rfl rfl (op_runs rfl fun σ w' hx hg => rptri (ρ := σ.eval) (w := w') (.tmp 92) (.const (.int .i64 0)) rfl hg.1 (J13.ext hx) 0 rfl (by simp) rfl)) ?_
      refine LinL.step (s := (.val (.int .i64 (b.name : Int)))) [(93, some 0), (89, some 4)] rfl (by kernel_rfl) (op_yes (reads := [(93, some 0)]) 7 89 4 false rfl rfl rfl (op_runs rfl fun σ w' hx hg => ⟨_, runs_load (ρ := σ.eval) (w := w') (.tmp 93) rfl Try.underlying3 rfl hg.1, rfl⟩)) ?_
      refine LinL.step (s := (.val (.int .i64 ((M : Int) + 1)))) [(91, some 3), (94, some 0), (89, some 5)] rfl (by kernel_rfl) (op_yes (reads := [(91, some 3), (94, some 0)]) 7 89 5 false rfl rfl rfl (op_calls 31 #[(.tmp 91), (.tmp 94)] #[53, 3] (fun σ => #[.pointer (some ⟨p, 0, none⟩), .int .i64 (b.name : Int)]) rfl rfl (fun _ _ => rfl) fun σ w' hx hg => ⟨by have h91 : σ.tmps.getD 91 undef = .pointer (some ⟨p, 0, none⟩) := hg.1; have h94 : σ.tmps.getD 94 undef = .int .i64 (b.name : Int) := hg.2.1; simp only [List.map_toArray, List.map_cons, List.map_nil, Act.eval, h91, h94], retH (hHt.out w' (hX.trans (hxd.trans hx)))⟩)) ?_
      refine LinL.step (s := (.val (.int .i64 ((M : Int) + 1)))) [(6, none), (89, some 6)] rfl (by kernel_rfl) (op_yes (reads := [(6, none)]) 7 89 6 false rfl rfl rfl (op_out 6 (.int .i64 ((M : Int) + 1)) rfl (.inl rfl) rfl)) ?_
      refine LinL.step (s := (.val (.bool false))) [(95, some 1), (96, some 0), (89, some 7)] rfl (by kernel_rfl) (op_yes (reads := [(95, some 1), (96, some 0)]) 7 89 7 false rfl rfl rfl (op_runs rfl fun σ w' hx hg => ⟨(.bool false), by have h95 : σ.tmps.getD 95 undef = .int .i64 ((M : Int) + 1) := hg.1; have h96 : σ.tmps.getD 96 undef = .int .i64 ((M : Int) + 1) := hg.2.1; unfold Runs execOp; simp [Act.eval, h95, h96, go_sem], rfl⟩)) ?_
      refine LinL.step (s := (.val (.bool false))) [(89, some 8), (97, some 0)] rfl (by kernel_rfl) (op_runs rfl fun σ w' hx hg => ⟨_, runs_pick_f (ρ := σ.eval) (w := w') (.tmp 89) (.const (.bool true)) (.tmp 97) rfl hg.1 hg.2.1, rfl⟩) ?_
      intro wN hxN
      simp only [Fin', Sp.ptr, List.reverse_cons, List.reverse_nil, List.nil_append, List.cons_append, List.drop_zero, List.take_succ_cons, List.take_zero]
      intro q93 hq93
      simp only [Act.put, List.setIfInBounds_toArray, List.set_cons_zero, List.set_cons_succ]
      replace hX := hX.trans (hxd.trans hxN)
      replace hC := hC.ext hX
      replace hO := hO.extend hX
      replace hS := hS.ext hX
      clear hxd hxN J13 hX hTr hHt o13
      go_wp2
      go_roundw
      case rel => exact ⟨1, H2, K ++ [b], M + 1, by go_num, hjl'.out, by go_num, hM3, hla2, hi2, hC, hL2', hsl2, by omega, hS, hO⟩
      case measure => have := hjl'.out; simp [RowKit.intOf]; omega

set_option maxRecDepth 100000 in
theorem chainGrows_lifted (os : Os) (started : os.Started) (H : Type) (enc : TypeId × Value → H) :
    ReturnsInHanded {} Try.checked os 5 .any (Rows.chainGrowsSpec.pre6 enc Try.prog Try.f5 Rows.chainGrowsRow.domain false) (Rows.chainGrowsSpec.post enc Try.prog Try.f5 false true false false) := by
  refine law_lifted (s := Rows.chainGrowsSpec) (conds := Rows.chainGrowsRow.domain) Try.func5 (by kernel_rfl) rfl (fun H ds h => by
      rw [show Try.f5.params.size = 2 from rfl] at h
      match ds, h with
      | [d0, d1], _ => rfl) rfl rfl (by decide +kernel) os started H enc
    (ChangeSpec.witness6 (enc := enc) (C := Try.checked) false ⟨#[], #[.slice none 0 0, .int .i64 0], []⟩ 8 (by kernel_rfl) (by kernel_rfl) (by kernel_rfl) (by kernel_rfl)) ?_
  intro W base args ds p hval hA hsz _
  have hp : Try.f5.params.toList = [24, 3] := rfl
  rw [hp] at hA hsz
  obtain ⟨v0, v1, d0, d1, p0, p1, rfl, rfl, rfl, h0, h1⟩ := trodAll_two hA
  obtain ⟨l0, a0, b0, c0⟩ := arg_ints hsz (j := 0) rfl rfl (hval 0 24 v0 rfl rfl) h0
  obtain ⟨a1, rfl, b1, c1⟩ := arg_int (hval 1 3 v1 rfl rfl) h1
  exact chainGrows_law v0 l0 a1 W a0 b0 ⟨b1, c1⟩

theorem chainGrows_holds : Rows.ChainGrowsSaid :=
  OpenClaim.holds_of_wide 5 Try.f5 rfl rfl rfl rfl rfl rfl rfl ⟨rfl, rfl, rfl, rfl, rfl⟩ rfl rfl rfl rfl rfl (by kernel_rfl) Try.func5 (by kernel_rfl)
    (of_decide_eq_true (by kernel_rfl)) (by unfold Func.isWrapper; first | (rw [if_pos (by decide +kernel)]; kernel_rfl) | (rw [if_neg (by decide +kernel)]; exact ⟨rfl, rfl⟩))
    (fun os started H enc _ => chainGrows_lifted os started H enc)
#print axioms chainGrows_holds

end Go.Proofs.Ytpnbkgeglgiihaa
