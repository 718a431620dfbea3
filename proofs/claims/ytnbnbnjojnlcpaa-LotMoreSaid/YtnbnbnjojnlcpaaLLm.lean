/- The statement LotMore: one more winner in a slot changes nothing but that; in a slot that is won by somebody else it isn't one's alone. No condition. -/
import Derived.Test.YtnbnbnjojnlcpaaLotLa
import Derived.Test.YtnbnbnjojnlcpaaLotM
import Derived.Test.YtnbnbnjojnlcpaaRegT
import Derived.Test.YtnbnbnjojnlcpaaArgI
namespace Go.Proofs.Ytnbnbnjojnlcpaa
open Go.RowKit Go.ChangeShapes Go.WideShapes Go.ChangeAt

theorem drok_i64 {l : List Int} (h : DrOk l) : I64s l := fun x hx => by have := h.2 x hx; omega
set_option maxRecDepth 100000 in
set_option maxHeartbeats 6400000 in
theorem lotMore_in (v : Value) (l : List Int) (s : Int) (i n : Nat) (W : World) (hD0 : DrOk l) (h0 : Ints W v l) (hs0 : s = (i : Int) + 1) (hi0 : i < l.length) (hn : n < 7) :
    Calls Try.prog 7 #[v, .int .i64 s, .int .i64 (n : Int)] W fun e w' => e = .returned (.bool true) ∧ Ext W w' := by
  refine calls_keep ?_
  have hlen := hD0.1
  have hI := hide_ (drok_i64 hD0)
  have e0 := hide_ (show lchk l = 0 from if_pos hD0)
  have t1 : decide (s < 1) = false := decide_eq_false (by omega)
  have t2 : decide ((l.length : Int) < s) = false := decide_eq_false (by omega)
  have t3 : decide ((n : Int) < 0) = false := decide_eq_false (by omega)
  have t4 : decide (6 < (n : Int)) = false := decide_eq_false (by omega)
  obtain ⟨d, hd0⟩ : ∃ d, l[i] = d := ⟨_, rfl⟩
  have hdb := hD0.at hi0
  rw [hd0] at hdb
  obtain ⟨M, hM0⟩ : ∃ M, mo l i n d = M := ⟨_, rfl⟩
  have hDm0 : DrOk M := by rw [← hM0]; exact mo_ok hD0 hi0 hd0 hn
  have hIm := hide_ (drok_i64 hDm0)
  have em := hide_ (show lchk M = 0 from if_pos hDm0)
  have hyes := hide_ (show win M s (n : Int) = true from by rw [← hM0, hs0]; exact mo_yes hD0 hi0 hd0 hn)
  have hsm := hide_ (show ∀ z k : Int, 1 ≤ z → z ≤ l.length → 0 ≤ k → k < 7 → ¬ (z = s ∧ k = (n : Int)) → win M z k = win l z k from fun z k a b c e f => by
    rw [← hM0]; exact mo_same hD0 hi0 hd0 hn a b c e (by rw [← hs0]; exact f))
  obtain ⟨R, hW0⟩ : ∃ R, wns l s = R := ⟨_, rfl⟩
  have hsing := hide_ (show ∀ who, (1 < R.length ∨ ∃ x, R = [x] ∧ x ≠ (n : Int)) → sgl M who = false from fun who h => by
    rw [← hM0]; exact mo_single hD0 hi0 hd0 hn (by rw [← hs0]; exact hW0) h)
  obtain ⟨r, hr0⟩ : ∃ r : Int, (R.length : Int) = r := ⟨_, rfl⟩
  have hrl := hide_ hr0
  have hW := hide_ hW0
  have hset := hide_ (show ∀ c, c = orb d n → l.set i c = M from fun c hc => by rw [hc]; exact hM0)
  have hor := hide_ (show bits .or .i64 d ((2 ^ n : Nat) : Int) = orb d n from rfl)
  have hDm := hide_ hDm0
  have hD := hide_ hD0
  replace h0 := hide_ h0
  have hd := hide_ hd0
  have hs := hide_ hs0
  have hi := hide_ hi0
  have hsb := hide_ (show 1 ≤ s ∧ s ≤ 200 from by omega)
  have hwi := hide_ (show IntKind.i64.wrap (i : Int) = (i : Int) from by simp [IntKind.wrap, IntKind.signed, IntKind.bits]; omega)
  obtain ⟨AL, hAL0⟩ : ∃ AL : List Int, AL = [0, 1, 2, 3, 4, 5, 6] := ⟨_, rfl⟩
  have hAL := hide_ hAL0
  clear hDm0 hD0 hW0 hM0 hs0 hAL0 hdb hr0
  go_enter Try.func7, Try.ntmps7
  go_wp2_with ((first
    | (go_at_call 8; refine (lotAlive_any _).mono ?_; rintro e w4 ⟨rfl, hX⟩)
    | (go_at_call 9; refine (Check_any (h0.out.ext hX) hI.out).mono ?_; rintro e w4 ⟨rfl, hx⟩; rw [e0.out]; replace hX := hX.trans hx; clear hx)
    | ((with_reducible refine at_bi ?_); (try refine w_yes _ _ _ rfl rfl rfl ?_); refine i_len _ rfl rfl (v := v) rfl (h0.out.ext hX) ?_)
    | ((with_reducible refine at_lit ?_); refine w_new Try.elI (o := ⟨some 36, _, _, _, _, _⟩) (i64s []) rfl rfl rfl (i64s_cells _) rfl (by omega) ?_; intro v3 w3 hx3 ho3; have o3 : OwnI _ w3 v3 [] := ho3; replace o3 := hide_ (o3.mono hX.size); replace hX := hX.trans hx3; clear ho3 hx3)
    | ((with_reducible refine at_bi ?_); refine appi _ _ rfl rfl rfl rfl o3.out (h0.out.ext hX) (by simp; omega) hX.size ?_; intro vm w4 ho4 hb4 hg4 hl4; replace hX := hX.trans' hb4; rw [List.nil_append] at ho4; replace ho4 := hide_ ho4; clear hb4 hg4 hl4 o3)
    | fail) <;> (try simp only [Act.put, List.setIfInBounds_toArray, List.set_cons_zero, List.set_cons_succ]))
  obtain ⟨g, cap, hvm, hgb, hgs, hcell, _, _⟩ := own_at (own_ext ho4.out (Ext.refl _).drew) (i := i) (by rw [i64s_length]; exact hi.out)
  have hvm' := hide_ hvm
  have K0 := hide_ (OwnI.ext ho4.out (Ext.refl w4).drew)
  have hi' := hide_ (show i < (i64s l).length from by rw [i64s_length]; exact hi.out)
  have hgi := hide_ (show vm.ownBlock = some g from by rw [hvm]; rfl)
  clear hvm hcell
  refine wp_region_linT 9 (by kernel_rfl) (by kernel_rfl) ?_
  refine LinR.step (s := (.val vm)) [(7, none)] rfl (by kernel_rfl) (op_out 7 vm rfl (.inl rfl) rfl) ?_
  refine LinR.step (s := (.val (.int .i64 s))) [(1, none)] rfl (by kernel_rfl) (op_out 1 (.int .i64 s) rfl (.inl rfl) rfl) ?_
  refine LinR.step (s := (.val (.int .i64 (i : Int)))) [(40, some 0)] rfl (by kernel_rfl) (op_runs rfl fun σ w' hx hg => ⟨(.int .i64 (i : Int)), by have h40 : σ.tmps.getD 40 undef = .int .i64 s := hg.1; rw [hs.out] at h40; unfold Runs execOp; simp [Act.eval, h40, go_sem, hwi.out], rfl⟩) ?_
  refine LinR.step (s := (Sp.ptr (.int .i64 d))) [(39, some 2), (41, some 0)] rfl (by kernel_rfl) (op_runs rfl fun σ w' hx' hg => rptri (ρ := σ.eval) (w := w') (.tmp 39) (.tmp 41) rfl (hg.1) (K0.out.ints.ext hx') i hg.2.1 hi.out hd.out) ?_
  refine LinR.step (s := (.val (.int .i64 d))) [(42, some 0)] rfl (by kernel_rfl) (op_runs rfl fun σ w' hx hg => ⟨_, runs_load (ρ := σ.eval) (w := w') (.tmp 42) rfl Try.underlying3 rfl hg.1, rfl⟩) ?_
  refine LinR.step (s := (.val (.int .i64 (n : Int)))) [(2, none)] rfl (by kernel_rfl) (op_out 2 (.int .i64 (n : Int)) rfl (.inl rfl) rfl) ?_
  refine LinR.step (s := (.val (.int .i64 ((2 ^ n : Nat) : Int)))) [(44, some 0)] rfl (by kernel_rfl) (op_runs rfl fun σ w' hx hg => ⟨_, runs_shl1 (ρ := σ.eval) (w := w') (.tmp 44) rfl rfl hg.1 hn, rfl⟩) ?_
  refine LinR.step (s := (.val (.int .i64 (orb d n)))) [(43, some 2), (45, some 0)] rfl (by kernel_rfl) (op_runs rfl fun σ w' hx hg => ⟨_, runs_bits (ρ := σ.eval) (w := w') (.tmp 43) (.tmp 45) (.inr rfl) rfl hg.1 hg.2.1, by rw [hor.out]; rfl⟩) ?_
  refine LinR.step (s := (.val (.pointer (some ⟨g, i, none⟩)))) [(39, some 7), (41, some 5)] rfl (by kernel_rfl) (op_runs rfl fun σ w' hx' hg => ⟨_, runs_oidx (ρ := σ.eval) (w := w') Try.elI (.tmp 39) (.tmp 41) rfl hg.1 hvm'.out hg.2.1 hi'.out, rfl⟩) ?_
  intro wN hxN
  simp only [Fin', Sp.ptr, List.reverse_cons, List.reverse_nil, List.nil_append, List.cons_append, List.take_succ_cons, List.take_zero]
  intro q42 hq42
  simp only [Act.put, List.setIfInBounds_toArray, List.set_cons_zero, List.set_cons_succ, List.drop_succ_cons, List.drop_zero]
  have KN := hide_ (OwnI.ext K0.out hxN)
  replace hX := (hX.trans (Ext.refl _).drew).trans hxN
  obtain ⟨B, hB0⟩ : ∃ B : Int, ((2 ^ n : Nat) : Int) = B := ⟨_, rfl⟩
  rw [hB0]
  clear hB0
  obtain ⟨c, hc0⟩ : ∃ c, c = orb d n := ⟨_, rfl⟩
  rw [← hc0]
  have hc := hide_ hc0
  clear hq42 hxN K0 ho4 hc0
  go_wp2_with (first
    | ((with_reducible refine at_store ?_); refine w_ostore Try.elI _ _ (u := .int .i64 c) rfl rfl rfl rfl rfl rfl rfl KN.out hgi.out hi'.out ?_; intro w59 hb59 ho59; replace hX := hX.trans' hb59; have om : Ints w59 vm M := by { have e5 : (i64s l).set i (.int .i64 c) = i64s M := by { rw [← hset.out c hc.out]; simp [i64s, List.map_set] }; rw [e5] at ho59; exact Sl.of_own ho59 }; replace om := hide_ om; clear hb59 ho59)
    | (go_at_call 9; refine (Check_any om.out hIm.out).mono ?_; rintro e w4 ⟨rfl, hx⟩; rw [em.out]; replace hX := hX.trans hx; replace om := hide_ (om.out.ext hx); clear hx)
    | (go_at_call 11; (with_reducible refine (Wins_any (s := s) (n := (n : Int)) hDm.out om.out).mono ?_); rintro e w4 ⟨rfl, hx⟩; rw [hyes.out]; replace hX := hX.trans hx; replace om := hide_ (om.out.ext hx); clear hx)
    | fail)
  go_loopw [8] (fun zz wr => ∃ z : Int, zz = .int .i64 z ∧ 1 ≤ z ∧ z ≤ (l.length : Int) + 1 ∧ Ext W wr ∧ Hid (Ints wr vm M)) (fun zz _ => ((l.length : Int) + 1 - RowKit.intOf zz).toNat)
  case atStart => exact ⟨1, rfl, by omega, by omega, hX, om⟩
  case round =>
    clear hX om
    obtain ⟨z, rfl, hz1, hz2, hX, om⟩ := hrel
    by_cases hzl : z ≤ (l.length : Int)
    · have t5 : decide (z ≤ (l.length : Int)) = true := decide_eq_true hzl
      go_wp2_with ((first
        | ((with_reducible refine at_bi ?_); (try refine w_yes _ _ _ rfl rfl rfl ?_); refine i_len _ rfl rfl (v := v) rfl (h0.out.ext hX) ?_)
        | fail) <;> (try simp only [Act.put, List.setIfInBounds_toArray, List.set_cons_zero, List.set_cons_succ]))
      go_loopw [9] (fun kk wr => ∃ k : Int, kk = .int .i64 k ∧ 0 ≤ k ∧ k ≤ 7 ∧ Ext W wr ∧ Hid (Ints wr vm M)) (fun kk _ => (7 - RowKit.intOf kk).toNat)
      case atStart => exact ⟨0, rfl, by omega, by omega, hX, om⟩
      case round =>
        clear hX om
        obtain ⟨k, rfl, hk1, hk2, hX, om⟩ := hrel
        by_cases hkl : k < 7
        · have t6 : decide (k < 7) = true := decide_eq_true hkl
          obtain ⟨b, hb0⟩ : ∃ b, win l z k = b := ⟨_, rfl⟩
          have hb := hide_ hb0
          have tb : (b != b) = false := by cases b <;> rfl
          have hz := hide_ (show 1 ≤ z ∧ z ≤ l.length ∧ 0 ≤ k ∧ k < 7 from ⟨hz1, hzl, hk1, hkl⟩)
          cases c1 : (z != s)
          · cases c2 : (k != (n : Int))
            · go_wp2
              go_roundw
              case rel => exact ⟨k + 1, by go_num, by omega, by omega, hX, om⟩
              case measure => simp [RowKit.intOf]; omega
            · have hsame := hide_ (show win M z k = b from by
                rw [hsm.out z k hz1 hzl hk1 hkl (fun e => by rw [e.2] at c2; simp at c2)]; exact hb0)
              clear hb0
              go_wp2_with (first
                | (go_at_call 11; (with_reducible refine (Wins_any (v := vm) (s := z) (n := k) hDm.out om.out).mono ?_); rintro e w4 ⟨rfl, hx⟩; rw [hsame.out]; replace hX := hX.trans hx; replace om := hide_ (om.out.ext hx); clear hx)
                | (go_at_call 11; (with_reducible refine (Wins_any (v := v) (s := z) (n := k) hD.out (h0.out.ext hX)).mono ?_); rintro e w4 ⟨rfl, hx⟩; rw [hb.out]; replace hX := hX.trans hx; replace om := hide_ (om.out.ext hx); clear hx)
                | fail)
              go_roundw
              case rel => exact ⟨k + 1, by go_num, by omega, by omega, hX, om⟩
              case measure => simp [RowKit.intOf]; omega
          · have hsame := hide_ (show win M z k = b from by
              rw [hsm.out z k hz1 hzl hk1 hkl (fun e => by rw [e.1] at c1; simp at c1)]; exact hb0)
            clear hb0
            go_wp2_with (first
              | (go_at_call 11; (with_reducible refine (Wins_any (v := vm) (s := z) (n := k) hDm.out om.out).mono ?_); rintro e w4 ⟨rfl, hx⟩; rw [hsame.out]; replace hX := hX.trans hx; replace om := hide_ (om.out.ext hx); clear hx)
              | (go_at_call 11; (with_reducible refine (Wins_any (v := v) (s := z) (n := k) hD.out (h0.out.ext hX)).mono ?_); rintro e w4 ⟨rfl, hx⟩; rw [hb.out]; replace hX := hX.trans hx; replace om := hide_ (om.out.ext hx); clear hx)
              | fail)
            go_roundw
            case rel => exact ⟨k + 1, by go_num, by omega, by omega, hX, om⟩
            case measure => simp [RowKit.intOf]; omega
        · obtain rfl : k = 7 := by omega
          go_wp2
          go_roundw
          case rel => exact ⟨z + 1, by go_num, by omega, by omega, hX, om⟩
          case measure => simp [RowKit.intOf]; omega
    · have t5 : decide (z ≤ (l.length : Int)) = false := decide_eq_false hzl
      by_cases r1 : 1 < r
      · have t6 : decide (0 < r) = true := decide_eq_true (by omega)
        have t7 : decide (1 < r) = true := decide_eq_true (by omega)
        have hsg := hide_ (hsing.out AL (.inl (by have := hrl.out; omega)))
        clear r1
        go_wp2_with ((first
          | (go_at_call 10; refine (Single_any hDm.out om.out ia.out).mono ?_; rintro e w4 ⟨rfl, hx⟩; rw [hsg.out]; replace hX := hX.trans hx; clear hx)
          | (go_at_call 15; refine (Winners_any (s := s) hD.out (h0.out.ext hX)).mono ?_; rintro e w4 ⟨vw, rfl, iw, hx⟩; rw [hW.out] at iw; replace iw := hide_ iw; replace hX := hX.trans hx; replace om := hide_ (om.out.ext hx); replace ia := hide_ (ia.out.ext hx); clear hx)
          | ((with_reducible refine at_bi ?_); (try refine w_yes _ _ _ rfl rfl rfl ?_); refine i_len _ rfl rfl (v := vw) rfl iw.out ?_; rw [hrl.out])
          | ((with_reducible refine at_bi ?_); (try refine w_yes _ _ _ rfl rfl rfl ?_); refine i_len _ rfl rfl (v := v) rfl (h0.out.ext hX) ?_)
          | ((with_reducible refine at_lit ?_); refine w_new Try.elI (o := ⟨some 87, _, _, _, _, none⟩) (i64s [0, 1, 2, 3, 4, 5, 6]) rfl rfl rfl (i64s_cells _) rfl (by omega) ?_; intro va w3 hx ho3; have ia : Ints _ va AL := by { rw [hAL.out]; exact OwnI.ints ho3 }; replace ia := hide_ ia; replace hX := hX.trans hx; replace om := hide_ (om.out.ext hx); clear ho3 hx)
          | fail) <;> (try simp only [Act.put, List.setIfInBounds_toArray, List.set_cons_zero, List.set_cons_succ]))
        go_ret
        exact Keep.intro ⟨rfl, hX⟩
      have t7 : decide (1 < r) = false := decide_eq_false (by omega)
      by_cases r0 : r = 0
      · have t6 : decide (0 < r) = false := decide_eq_false (by omega)
        clear r1 r0
        go_wp2_with ((first
          | (go_at_call 15; refine (Winners_any (s := s) hD.out (h0.out.ext hX)).mono ?_; rintro e w4 ⟨vw, rfl, iw, hx⟩; rw [hW.out] at iw; replace iw := hide_ iw; replace hX := hX.trans hx; replace om := hide_ (om.out.ext hx); replace ia := hide_ (ia.out.ext hx); clear hx)
          | ((with_reducible refine at_bi ?_); (try refine w_yes _ _ _ rfl rfl rfl ?_); refine i_len _ rfl rfl (v := vw) rfl iw.out ?_; rw [hrl.out])
          | ((with_reducible refine at_bi ?_); (try refine w_yes _ _ _ rfl rfl rfl ?_); refine i_len _ rfl rfl (v := v) rfl (h0.out.ext hX) ?_)
          | ((with_reducible refine at_lit ?_); refine w_new Try.elI (o := ⟨some 87, _, _, _, _, none⟩) (i64s [0, 1, 2, 3, 4, 5, 6]) rfl rfl rfl (i64s_cells _) rfl (by omega) ?_; intro va w3 hx ho3; have ia : Ints _ va AL := by { rw [hAL.out]; exact OwnI.ints ho3 }; replace ia := hide_ ia; replace hX := hX.trans hx; replace om := hide_ (om.out.ext hx); clear ho3 hx)
          | fail) <;> (try simp only [Act.put, List.setIfInBounds_toArray, List.set_cons_zero, List.set_cons_succ]))
        go_ret
        exact Keep.intro ⟨rfl, hX⟩
      have hrp : 0 < r := by have := hrl.out; omega
      have t6 : decide (0 < r) = true := decide_eq_true hrp
      have hR0 : 0 < R.length := by have := hrl.out; omega
      obtain ⟨x, hx⟩ : ∃ x, R = [x] := List.length_eq_one_iff.1 (by have := hrl.out; omega)
      have h1 := hide_ hR0
      have hx0 := hide_ (show R[0]'hR0 = x from by subst hx; rfl)
      cases c1 : (x != (n : Int))
      · clear r1 r0 hx
        go_wp2_with ((first
          | (go_at_call 15; refine (Winners_any (s := s) hD.out (h0.out.ext hX)).mono ?_; rintro e w4 ⟨vw, rfl, iw, hx⟩; rw [hW.out] at iw; replace iw := hide_ iw; replace hX := hX.trans hx; replace om := hide_ (om.out.ext hx); replace ia := hide_ (ia.out.ext hx); clear hx)
          | ((with_reducible refine at_bi ?_); (try refine w_yes _ _ _ rfl rfl rfl ?_); refine i_len _ rfl rfl (v := vw) rfl iw.out ?_; rw [hrl.out])
          | ((with_reducible refine at_bi ?_); (try refine w_yes _ _ _ rfl rfl rfl ?_); refine i_len _ rfl rfl (v := v) rfl (h0.out.ext hX) ?_)
          | ((with_reducible refine at_lit ?_); refine w_new Try.elI (o := ⟨some 87, _, _, _, _, none⟩) (i64s [0, 1, 2, 3, 4, 5, 6]) rfl rfl rfl (i64s_cells _) rfl (by omega) ?_; intro va w3 hx ho3; have ia : Ints _ va AL := by { rw [hAL.out]; exact OwnI.ints ho3 }; replace ia := hide_ ia; replace hX := hX.trans hx; replace om := hide_ (om.out.ext hx); clear ho3 hx)
          | ((with_reducible refine at_idx ?_); (try refine w_yes _ _ _ rfl rfl rfl ?_); refine i_idx _ _ 0 rfl rfl (v := vw) rfl iw.out rfl h1.out ?_; intro ad had; rw [hx0.out] at had)
          | fail) <;> (try simp only [Act.put, List.setIfInBounds_toArray, List.set_cons_zero, List.set_cons_succ]))
        go_ret
        exact Keep.intro ⟨rfl, hX⟩
      · have hsg := hide_ (hsing.out AL (.inr ⟨x, hx, bne_iff_ne.1 c1⟩))
        clear r1 r0 hx
        go_wp2_with ((first
          | (go_at_call 10; refine (Single_any hDm.out om.out ia.out).mono ?_; rintro e w4 ⟨rfl, hx⟩; rw [hsg.out]; replace hX := hX.trans hx; clear hx)
          | (go_at_call 15; refine (Winners_any (s := s) hD.out (h0.out.ext hX)).mono ?_; rintro e w4 ⟨vw, rfl, iw, hx⟩; rw [hW.out] at iw; replace iw := hide_ iw; replace hX := hX.trans hx; replace om := hide_ (om.out.ext hx); replace ia := hide_ (ia.out.ext hx); clear hx)
          | ((with_reducible refine at_bi ?_); (try refine w_yes _ _ _ rfl rfl rfl ?_); refine i_len _ rfl rfl (v := vw) rfl iw.out ?_; rw [hrl.out])
          | ((with_reducible refine at_bi ?_); (try refine w_yes _ _ _ rfl rfl rfl ?_); refine i_len _ rfl rfl (v := v) rfl (h0.out.ext hX) ?_)
          | ((with_reducible refine at_lit ?_); refine w_new Try.elI (o := ⟨some 87, _, _, _, _, none⟩) (i64s [0, 1, 2, 3, 4, 5, 6]) rfl rfl rfl (i64s_cells _) rfl (by omega) ?_; intro va w3 hx ho3; have ia : Ints _ va AL := by { rw [hAL.out]; exact OwnI.ints ho3 }; replace ia := hide_ ia; replace hX := hX.trans hx; replace om := hide_ (om.out.ext hx); clear ho3 hx)
          | ((with_reducible refine at_idx ?_); (try refine w_yes _ _ _ rfl rfl rfl ?_); refine i_idx _ _ 0 rfl rfl (v := vw) rfl iw.out rfl h1.out ?_; intro ad had; rw [hx0.out] at had)
          | fail) <;> (try simp only [Act.put, List.setIfInBounds_toArray, List.set_cons_zero, List.set_cons_succ]))
        go_ret
        exact Keep.intro ⟨rfl, hX⟩

set_option maxRecDepth 100000 in
set_option maxHeartbeats 1600000 in
theorem lotMore_law (v : Value) (l : List Int) (s n : Int) (W : World) (h0 : Ints W v l) (hI : I64s l) :
    Calls Try.prog 7 #[v, .int .i64 s, .int .i64 n] W fun e w' => e = .returned (.bool true) ∧ Ext W w' := by
  by_cases hD : DrOk l
  · by_cases g1 : s < 1
    · have t1 : decide (s < 1) = true := decide_eq_true g1
      have e0 := hide_ (show lchk l = 0 from if_pos hD)
      replace h0 := hide_ h0
      replace hI := hide_ hI
      clear hD g1
      refine calls_keep ?_
      go_enter Try.func7, Try.ntmps7
      go_wp2_with (first
        | (go_at_call 8; refine (lotAlive_any _).mono ?_; rintro e w4 ⟨rfl, hX⟩)
        | (go_at_call 9; refine (Check_any (h0.out.ext hX) hI.out).mono ?_; rintro e w4 ⟨rfl, hx⟩; rw [e0.out]; replace hX := hX.trans hx; clear hx)
        | fail)
      go_ret
      exact Keep.intro ⟨rfl, hX⟩
    have t1 : decide (s < 1) = false := decide_eq_false g1
    by_cases g2 : (l.length : Int) < s
    · have t2 : decide ((l.length : Int) < s) = true := decide_eq_true g2
      have e0 := hide_ (show lchk l = 0 from if_pos hD)
      replace h0 := hide_ h0
      replace hI := hide_ hI
      clear hD g1 g2
      refine calls_keep ?_
      go_enter Try.func7, Try.ntmps7
      go_wp2_with ((first
        | (go_at_call 8; refine (lotAlive_any _).mono ?_; rintro e w4 ⟨rfl, hX⟩)
        | (go_at_call 9; refine (Check_any (h0.out.ext hX) hI.out).mono ?_; rintro e w4 ⟨rfl, hx⟩; rw [e0.out]; replace hX := hX.trans hx; clear hx)
        | ((with_reducible refine at_bi ?_); (try refine w_yes _ _ _ rfl rfl rfl ?_); refine i_len _ rfl rfl (v := v) rfl (h0.out.ext hX) ?_)
        | fail) <;> (try simp only [Act.put, List.setIfInBounds_toArray, List.set_cons_zero, List.set_cons_succ]))
      go_ret
      exact Keep.intro ⟨rfl, hX⟩
    have t2 : decide ((l.length : Int) < s) = false := decide_eq_false g2
    by_cases g3 : n < 0
    · have t3 : decide (n < 0) = true := decide_eq_true g3
      have e0 := hide_ (show lchk l = 0 from if_pos hD)
      replace h0 := hide_ h0
      replace hI := hide_ hI
      clear hD g1 g2 g3
      refine calls_keep ?_
      go_enter Try.func7, Try.ntmps7
      go_wp2_with ((first
        | (go_at_call 8; refine (lotAlive_any _).mono ?_; rintro e w4 ⟨rfl, hX⟩)
        | (go_at_call 9; refine (Check_any (h0.out.ext hX) hI.out).mono ?_; rintro e w4 ⟨rfl, hx⟩; rw [e0.out]; replace hX := hX.trans hx; clear hx)
        | ((with_reducible refine at_bi ?_); (try refine w_yes _ _ _ rfl rfl rfl ?_); refine i_len _ rfl rfl (v := v) rfl (h0.out.ext hX) ?_)
        | fail) <;> (try simp only [Act.put, List.setIfInBounds_toArray, List.set_cons_zero, List.set_cons_succ]))
      go_ret
      exact Keep.intro ⟨rfl, hX⟩
    have t3 : decide (n < 0) = false := decide_eq_false g3
    by_cases g4 : 6 < n
    · have t4 : decide (6 < n) = true := decide_eq_true g4
      have e0 := hide_ (show lchk l = 0 from if_pos hD)
      replace h0 := hide_ h0
      replace hI := hide_ hI
      clear hD g1 g2 g3 g4
      refine calls_keep ?_
      go_enter Try.func7, Try.ntmps7
      go_wp2_with ((first
        | (go_at_call 8; refine (lotAlive_any _).mono ?_; rintro e w4 ⟨rfl, hX⟩)
        | (go_at_call 9; refine (Check_any (h0.out.ext hX) hI.out).mono ?_; rintro e w4 ⟨rfl, hx⟩; rw [e0.out]; replace hX := hX.trans hx; clear hx)
        | ((with_reducible refine at_bi ?_); (try refine w_yes _ _ _ rfl rfl rfl ?_); refine i_len _ rfl rfl (v := v) rfl (h0.out.ext hX) ?_)
        | fail) <;> (try simp only [Act.put, List.setIfInBounds_toArray, List.set_cons_zero, List.set_cons_succ]))
      go_ret
      exact Keep.intro ⟨rfl, hX⟩
    obtain ⟨i, hi⟩ : ∃ i : Nat, s = (i : Int) + 1 := ⟨(s - 1).toNat, by omega⟩
    obtain ⟨k, rfl⟩ : ∃ k : Nat, n = (k : Int) := ⟨n.toNat, by omega⟩
    exact lotMore_in v l s i k W hD h0 hi (by omega) (by omega)
  · have e0 := hide_ (show lchk l = 101 from if_neg hD)
    replace h0 := hide_ h0
    replace hI := hide_ hI
    clear hD
    refine calls_keep ?_
    go_enter Try.func7, Try.ntmps7
    go_wp2_with (first
      | (go_at_call 8; refine (lotAlive_any _).mono ?_; rintro e w4 ⟨rfl, hX⟩)
      | (go_at_call 9; refine (Check_any (h0.out.ext hX) hI.out).mono ?_; rintro e w4 ⟨rfl, hx⟩; rw [e0.out]; replace hX := hX.trans hx; clear hx)
      | fail)
    go_ret
    exact Keep.intro ⟨rfl, hX⟩

set_option maxRecDepth 100000 in
theorem lotMore_lifted (os : Os) (started : os.Started) (H : Type) (enc : TypeId × Value → H) :
    ReturnsInHanded {} Try.checked os 7 .any (Rows.lotMoreSpec.pre6 enc Try.prog Try.f7 Rows.lotMoreRow.domain false) (Rows.lotMoreSpec.post enc Try.prog Try.f7 false true false false) := by
  refine law_lifted (s := Rows.lotMoreSpec) (conds := Rows.lotMoreRow.domain) Try.func7 (by kernel_rfl) rfl (fun H ds h => by
      rw [show Try.f7.params.size = 3 from rfl] at h
      match ds, h with
      | [d0, d1, d2], _ => rfl) rfl rfl (by decide +kernel) os started H enc
    (ChangeSpec.witness6 (enc := enc) (C := Try.checked) false ⟨#[], #[.slice none 0 0, .int .i64 0, .int .i64 0], []⟩ 8 (by kernel_rfl) (by kernel_rfl) (by kernel_rfl) (by kernel_rfl)) ?_
  intro W base args ds p hval hA hsz _
  have hp : Try.f7.params.toList = [25, 3, 3] := rfl
  rw [hp] at hA hsz
  obtain ⟨v0, v1, v2, d0, d1, d2, p0, p1, p2, rfl, rfl, rfl, h0, h1, h2⟩ := trodAll_three hA
  obtain ⟨l0, a0, b0, c0⟩ := arg_ints hsz (j := 0) rfl rfl (hval 0 25 v0 rfl rfl) h0
  obtain ⟨a1, rfl, b1, c1⟩ := arg_int (hval 1 3 v1 rfl rfl) h1
  obtain ⟨a2, rfl, b2, c2⟩ := arg_int (hval 2 3 v2 rfl rfl) h2
  exact lotMore_law v0 l0 a1 a2 W a0 b0

theorem lotMore_holds : Rows.LotMoreSaid :=
  OpenClaim.holds_of_wide 7 Try.f7 rfl rfl rfl rfl rfl rfl rfl ⟨rfl, rfl, rfl, rfl, rfl⟩ rfl rfl rfl rfl rfl (by kernel_rfl) Try.func7 (by kernel_rfl)
    (of_decide_eq_true (by kernel_rfl)) (by unfold Func.isWrapper; first | (rw [if_pos (by decide +kernel)]; kernel_rfl) | (rw [if_neg (by decide +kernel)]; exact ⟨rfl, rfl⟩))
    (fun os started H enc _ => lotMore_lifted os started H enc)
#print axioms lotMore_holds

end Go.Proofs.Ytnbnbnjojnlcpaa
