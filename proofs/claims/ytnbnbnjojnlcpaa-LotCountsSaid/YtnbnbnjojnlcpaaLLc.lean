/- The statement LotCounts: all slots of all nodes are as many as all winners of all slots; where there is one winner at most, no slot is two nodes'. No condition. -/
import Derived.Test.YtnbnbnjojnlcpaaLotLa
import Derived.Test.YtnbnbnjojnlcpaaLotM
import Derived.Test.YtnbnbnjojnlcpaaArrV
import Derived.Test.YtnbnbnjojnlcpaaArgI
namespace Go.Proofs.Ytnbnbnjojnlcpaa
open Go.RowKit Go.ChangeShapes Go.WideShapes Go.ChangeAt

theorem Try.arr201 : ArT Try.prog 30 3 201 (cnt []) := by
  rw [cnt_nil]
  exact ArT.of Try.underlying30 (by kernel_rfl) (by kernel_rfl) (List.length_replicate ..)
theorem cnt_one (D : List Int) : ∀ u ∈ cnt D, u.oneCell' = true := by
  intro u hu
  simp only [cnt, List.mem_map] at hu
  obtain ⟨i, _, rfl⟩ := hu
  rfl
/-- The state of the counting: how many, and the counts. -/
def Cn (w : World) (g : Nat) (D : List Int) : Prop := Fs w g (cnt D)
theorem Cn.ext {w w' : World} {g : Nat} {D : List Int} (h : Cn w g D) (he : Ext w w') : Cn w' g D := Fs.ext h he
theorem Cn.load {m : Nat} {D : List Int} {c : Int} (hm : m < 201) (hc : c = ((D.count (m : Int) : Nat) : Int)) : (cnt D)[m]? = some (.int .i64 c) := by rw [cnt_at D hm, hc]
set_option maxRecDepth 100000 in
set_option maxHeartbeats 6400000 in
theorem lotCounts_in (v : Value) (l : List Int) (W : World) (hD0 : DrOk l) (h0 : Ints W v l) :
    Calls Try.prog 6 #[v] W fun e w' => e = .returned (.bool true) ∧ Ext W w' := by
  refine calls_keep ?_
  have hlen := hD0.1
  have hI := hide_ (show I64s l from fun x hx => by have := hD0.2 x hx; omega)
  have e0 := hide_ (show lchk l = 0 from if_pos hD0)
  have hD := hide_ hD0
  replace h0 := hide_ h0
  obtain ⟨L, hL0⟩ : ∃ L : Nat, l.length = L := ⟨_, rfl⟩
  have hLb : L ≤ 200 := by omega
  have hL := hide_ (show ((l.length : Nat) : Int) = (L : Int) from by rw [hL0])
  obtain ⟨AL, hAL0⟩ : ∃ AL : List Int, AL = [0, 1, 2, 3, 4, 5, 6] := ⟨_, rfl⟩
  have hAL := hide_ hAL0
  obtain ⟨b, hb0⟩ : ∃ b, sgl l AL = b := ⟨_, rfl⟩
  have hsg := hide_ hb0
  have hlast := hide_ (show decide ((mx (allS l 7) L : Int) ≤ 1) = b from by rw [← hL0, ← sgl_all hAL0, hb0])
  have hq7 := hide_ (show (allS l 7).length = tw l L from by rw [← hL0]; exact allS_tw l)
  have tb : (b == b) = true := by cases b <;> rfl
  have hLl := hide_ hL0
  clear hD0 hL0 hAL0 hb0 hlen
  go_enter Try.func6, Try.ntmps6
  go_wp2_with ((first
    | (go_at_call 8; refine (lotAlive_any _).mono ?_; rintro e w4 ⟨rfl, hX⟩)
    | (go_at_call 9; refine (Check_any (h0.out.ext hX) hI.out).mono ?_; rintro e w4 ⟨rfl, hx⟩; rw [e0.out]; replace hX := hX.trans hx; clear hx)
    | ((with_reducible refine at_sbuild ?_); refine w_arrzero Try.arr201 rfl rfl ?_)
    | ((with_reducible refine at_alloc ?_); refine w_arralloc Try.arr201 rfl rfl ?_; intro g w5 hg hx f1; replace f1 := hide_ f1; have hgW := hide_ (Nat.le_trans hX.size hg); replace hX := hX.trans hx; clear hx hg)
    | ((with_reducible refine at_store ?_); refine w_arrstore Try.arr201 _ _ rfl rfl rfl rfl rfl f1.out (cnt_len _) (cnt_len _) (cnt_one _) ?_; intro w6 hm f2; replace hX := hm.after hX (fun i hi => by rw [hi]; exact hgW.out); replace f1 : Hid (Cn w6 g []) := f2; clear hm f2)
    | fail) <;> (try simp only [Act.put, List.setIfInBounds_toArray, List.set_cons_zero, List.set_cons_succ]))
  go_loopw [3, 6] (fun qq nn wr => ∃ n q : Nat, nn = .int .i64 n ∧ n ≤ 7 ∧ qq = .int .i64 q ∧ Hid (q = (allS l n).length) ∧ Ext W wr ∧ Hid (Cn wr g (allS l n))) (fun _ nn _ => 7 - (RowKit.intOf nn).toNat)
  case atStart => exact ⟨0, 0, rfl, by omega, rfl, hide_ rfl, hX, f1⟩
  case round =>
    clear hX f1
    obtain ⟨n, q, rfl, hn, rfl, hq, hX, f1⟩ := hrel
    by_cases hnl : n < 7
    · have t2 : decide ((n : Int) < 7) = true := decide_eq_true (by omega)
      obtain ⟨S, hS0⟩ : ∃ S, sls l (n : Int) = S := ⟨_, rfl⟩
      have hS := hide_ hS0
      have hSlen : S.length ≤ 200 := by have := sls_len l (n : Int); rw [hS0, hLl.out] at this; omega
      have hSm := hide_ (show ∀ x ∈ S, 1 ≤ x ∧ x ≤ L ∧ win l x (n : Int) = true from fun x hx => by
        rw [← hS0] at hx
        have := sls_mem hx
        rw [hLl.out] at this
        exact this)
      have hbig := hide_ (show (allS l n).length ≤ 1400 from by
        have := allS_len l n
        rw [hLl.out] at this
        have : n * L ≤ 7 * 200 := Nat.mul_le_mul (by omega) (by omega)
        omega)
      have hnext := hide_ (show allS l (n + 1) = allS l n ++ S from by rw [← hS0]; rfl)
      clear hS0
      go_wp2_with ((first
        | (go_at_call 17; refine (Slots_own (n := (n : Int)) hD.out (h0.out.ext hX)).mono ?_; rintro e w4 ⟨vS, rfl, iS, hx⟩; have hSb : ∀ k, vS.ownBlock = some k → k ≠ g := (fun k hk e => by { have h1 := (own_block_lt iS hk).1; have h2 := Fs.lt f1.out; omega }); replace hSb := hide_ hSb; rw [hS.out] at iS; replace iS := hide_ (OwnI.ints iS); replace hX := hX.trans hx; replace f1 := hide_ (f1.out.ext hx); clear hx)
        | ((with_reducible refine at_bi ?_); refine i_len _ rfl rfl (v := vS) rfl iS.out ?_)
        | fail) <;> (try simp only [Act.put, List.setIfInBounds_toArray, List.set_cons_zero, List.set_cons_succ]))
      go_loopw [3, 25] (fun qq jj wr => ∃ j q : Nat, jj = .int .i64 j ∧ j ≤ S.length ∧ qq = .int .i64 q ∧ Hid (q = (allS l n ++ S.take j).length) ∧ Ext W wr ∧ Hid (Cn wr g (allS l n ++ S.take j)) ∧ Hid (Ints wr vS S)) (fun _ jj _ => S.length - (RowKit.intOf jj).toNat)
      case atStart => exact ⟨0, q, rfl, by omega, rfl, hide_ (by rw [List.take_zero, List.append_nil]; exact hq.out), hX, hide_ (by rw [List.take_zero, List.append_nil]; exact f1.out), iS⟩
      case round =>
        clear hX f1 iS hq
        obtain ⟨j, q, rfl, hj, rfl, hq, hX, f1, iS⟩ := hrel
        by_cases hjl : j < S.length
        · have t3 : decide ((j : Int) < (S.length : Int)) = true := decide_eq_true (by omega)
          have hxm := hSm.out S[j] (List.getElem_mem hjl)
          obtain ⟨m, hm0⟩ : ∃ m : Nat, S[j] = (m : Int) := ⟨S[j].toNat, by omega⟩
          rw [hm0] at hxm
          obtain ⟨x, hx0⟩ : ∃ x : Int, x = (m : Int) := ⟨_, rfl⟩
          have hm := hide_ (show S[j] = x from by rw [hm0, hx0])
          have hxe := hide_ hx0
          have hwin := hide_ (show win l x (n : Int) = true from by rw [hx0]; exact hxm.2.2)
          have hm2 := hide_ (show m < 201 from by omega)
          have t4 : decide (x < 1) = false := decide_eq_false (by omega)
          have t5 : decide ((L : Int) < x) = false := decide_eq_false (by omega)
          have hjl' := hide_ hjl
          have hD3 := hide_ (show allS l n ++ S.take (j + 1) = (allS l n ++ S.take j) ++ [(m : Int)] from by
            rw [List.take_add_one, List.getElem?_eq_getElem hjl, hm0, List.append_assoc]; rfl)
          obtain ⟨D, hD40⟩ : ∃ D, allS l n ++ S.take j = D := ⟨_, rfl⟩
          have hDb : D.length ≤ 1600 := by
            rw [← hD40, List.length_append, List.length_take]; have := hbig.out; omega
          rw [hD40] at hD3 hq f1
          obtain ⟨c, hc0⟩ : ∃ c : Int, c = ((D.count (m : Int) : Nat) : Int) := ⟨_, rfl⟩
          have hcb : c ≤ 1600 ∧ 0 ≤ c := by
            have : D.count (m : Int) ≤ D.length := List.count_le_length
            omega
          have hc1 := hcb.1
          have hc2 := hcb.2
          have hc := hide_ hc0
          have hqb : q ≤ 1600 := by have := hq.out; omega
          clear hm0 hxm hD40 hc0 hcb hx0
          go_wp2_with ((first
            | (go_at_call 11; refine (Wins_any (s := x) (n := (n : Int)) hD.out (h0.out.ext hX)).mono ?_; rintro e w4 ⟨rfl, hx⟩; rw [hwin.out]; replace hX := hX.trans hx; replace f1 := hide_ (f1.out.ext hx); replace iS := hide_ (iS.out.ext hx); clear hx)
            | ((with_reducible refine at_bi ?_); (try refine w_yes _ _ _ rfl rfl rfl ?_); refine i_len _ rfl rfl (v := v) rfl (h0.out.ext hX) ?_; rw [hL.out])
            | ((with_reducible refine at_idx ?_); refine w_arraddr Try.arr201 (.tmp 5) _ m rfl rfl rfl (by rw [← hxe.out]; rfl) hm2.out ?_)
            | ((with_reducible refine at_idx ?_); refine i_idx (.tmp 23) _ j rfl rfl rfl iS.out rfl hjl'.out ?_; intro ad had; rw [hm.out] at had)
            | ((with_reducible refine at_load ?_); refine w_fload (.tmp 45) rfl rfl rfl f1.out (Cn.load hm2.out hc.out) (agg_of (by kernel_rfl)) ?_)
            | ((with_reducible refine at_store ?_); refine w_fstore _ _ (u := .int .i64 (c + 1)) rfl rfl rfl rfl rfl f1.out (by rw [cnt_len]; exact hm2.out) rfl rfl (by kernel_rfl) ?_; intro w6 hmd f2; rw [hc.out, cnt_add D hm2.out, ← hD3.out] at f2; replace f2 : Cn w6 g (allS l n ++ S.take (j + 1)) := f2; replace hX := hmd.after hX (fun i hi => by rw [hi]; exact hgW.out); replace iS := hide_ (Sl.mod iS.out hmd hSb.out); replace f1 := hide_ f2; clear hmd f2)
            | fail) <;> (try simp only [Act.put, List.setIfInBounds_toArray, List.set_cons_zero, List.set_cons_succ]))
          go_roundw
          case rel => exact ⟨j + 1, q + 1, by go_num, hjl'.out, by go_num, hide_ (by rw [hD3.out, List.length_append, ← hq.out]; rfl), hX, f1, iS⟩
          case measure => have := hjl'.out; simp [RowKit.intOf]; omega
        · obtain rfl : j = S.length := by omega
          have t3 : decide ((S.length : Int) < (S.length : Int)) = false := by simp
          rw [List.take_length, ← hnext.out] at f1 hq
          go_wp2
          go_roundw
          case rel => exact ⟨n + 1, q, by go_num, by omega, rfl, hq, hX, f1⟩
          case measure => simp [RowKit.intOf]; omega
    · obtain rfl : n = 7 := by omega
      have hqq := hide_ (show q = tw l L from by rw [← hq7.out]; exact hq.out)
      obtain ⟨A, hA0⟩ : ∃ A, allS l 7 = A := ⟨_, rfl⟩
      rw [hA0] at f1 hlast
      have hAb : A.length ≤ 1400 := by
        have := allS_len l 7
        rw [hLl.out, hA0] at this
        omega
      clear hA0 hq
      go_wp2
      go_loopw [4, 9, 10] (fun ww mm ss wr => ∃ k t z : Nat, ss = .int .i64 ((k : Int) + 1) ∧ k ≤ L ∧ ww = .int .i64 t ∧ mm = .int .i64 z ∧ Hid (t = tw l k) ∧ Hid (z = mx A k) ∧ Ext W wr ∧ Hid (Cn wr g A)) (fun _ _ ss _ => L + 1 - (RowKit.intOf ss).toNat)
      case atStart => exact ⟨0, 0, 0, rfl, by omega, rfl, rfl, hide_ rfl, hide_ rfl, hX, f1⟩
      case round =>
        clear hX f1
        obtain ⟨k, t, z, rfl, hk, rfl, rfl, ht, hz, hX, f1⟩ := hrel
        by_cases hkl : k < L
        · have t3 : decide ((k : Int) + 1 ≤ (L : Int)) = true := decide_eq_true (by omega)
          obtain ⟨R, hW0⟩ : ∃ R, wns l ((k : Int) + 1) = R := ⟨_, rfl⟩
          obtain ⟨r, hr0⟩ : ∃ r : Nat, R.length = r := ⟨_, rfl⟩
          have hW := hide_ hW0
          have hwl := hide_ (show ((R.length : Nat) : Int) = (r : Int) from by rw [hr0])
          have htw := hide_ (show tw l (k + 1) = t + r from by rw [tw, ← hr0, ← hW0, ht.out]; rfl)
          have hrb : r ≤ 7 := by rw [← hr0, ← hW0]; exact pk_len 7
          have htb : t ≤ 1400 := by have := tw_le l k; have := ht.out; omega
          obtain ⟨c, hc0⟩ : ∃ c : Nat, c = A.count (((k + 1 : Nat)) : Int) := ⟨_, rfl⟩
          have hmx := hide_ (show mx A (k + 1) = max z c from by rw [mx, hz.out, hc0])
          have hc := hide_ (show (c : Int) = ((A.count (((k + 1 : Nat)) : Int) : Nat) : Int) from by rw [hc0])
          have hk2 := hide_ (show k + 1 < 201 from by omega)
          have hmax := hide_ (show ((max z c : Nat) : Int) = max (z : Int) (c : Int) from by omega)
          clear hW0 hr0 hc0
          go_wp2_with ((first
            | (go_at_call 15; refine (Winners_any (s := (k : Int) + 1) hD.out (h0.out.ext hX)).mono ?_; rintro e w4 ⟨vw, rfl, iw, hx⟩; rw [hW.out] at iw; replace iw := hide_ iw; replace hX := hX.trans hx; replace f1 := hide_ (f1.out.ext hx); clear hx)
            | ((with_reducible refine at_bi ?_); refine i_len _ rfl rfl (v := vw) rfl iw.out ?_; rw [hwl.out])
            | ((with_reducible refine at_bi ?_); (try refine w_yes _ _ _ rfl rfl rfl ?_); refine i_len _ rfl rfl (v := v) rfl (h0.out.ext hX) ?_; rw [hL.out])
            | ((with_reducible refine at_idx ?_); refine w_arraddr Try.arr201 (.tmp 5) _ (k + 1) rfl rfl rfl rfl hk2.out ?_)
            | ((with_reducible refine at_load ?_); refine w_fload _ rfl rfl rfl f1.out (Cn.load hk2.out hc.out) (agg_of (by kernel_rfl)) ?_)
            | ((with_reducible refine at_bi ?_); refine w_max _ _ ((max z c : Nat) : Int) hmax.out rfl rfl rfl rfl ?_)
            | fail) <;> (try simp only [Act.put, List.setIfInBounds_toArray, List.set_cons_zero, List.set_cons_succ]))
          go_roundw
          case rel => exact ⟨k + 1, t + r, max z c, by go_num, by omega, by go_num, rfl, hide_ htw.out.symm, hide_ hmx.out.symm, hX, f1⟩
          case measure => simp [RowKit.intOf]; omega
        · obtain rfl : k = L := by omega
          have t3 : decide ((k : Int) + 1 ≤ (k : Int)) = false := decide_eq_false (by omega)
          obtain rfl : t = q := by rw [hqq.out]; exact ht.out
          have tz : decide ((z : Int) ≤ 1) = b := by rw [hz.out]; exact hlast.out
          go_wp2_with ((first
            | (go_at_call 10; refine (Single_any hD.out (h0.out.ext hX) ia.out).mono ?_; rintro e w4 ⟨rfl, hx⟩; rw [hsg.out]; replace hX := hX.trans hx; clear hx)
            | ((with_reducible refine at_bi ?_); (try refine w_yes _ _ _ rfl rfl rfl ?_); refine i_len _ rfl rfl (v := v) rfl (h0.out.ext hX) ?_; rw [hL.out])
            | ((with_reducible refine at_lit ?_); (try refine w_yes _ _ _ rfl rfl rfl ?_); refine w_new Try.elI (o := ⟨some 74, _, _, _, _, _⟩) (i64s [0, 1, 2, 3, 4, 5, 6]) rfl rfl rfl (i64s_cells _) rfl (by omega) ?_; intro va w3 hx ho3; have ia : Ints _ va AL := by { rw [hAL.out]; exact OwnI.ints ho3 }; replace ia := hide_ ia; replace hX := hX.trans hx; clear ho3 hx)
            | fail) <;> (try simp only [Act.put, List.setIfInBounds_toArray, List.set_cons_zero, List.set_cons_succ]))
          go_ret
          exact Keep.intro ⟨rfl, hX⟩

set_option maxRecDepth 100000 in
set_option maxHeartbeats 1600000 in
theorem lotCounts_law (v : Value) (l : List Int) (W : World) (h0 : Ints W v l) (hI : I64s l) :
    Calls Try.prog 6 #[v] W fun e w' => e = .returned (.bool true) ∧ Ext W w' := by
  by_cases hD : DrOk l
  · exact lotCounts_in v l W hD h0
  · have e0 := hide_ (show lchk l = 101 from if_neg hD)
    replace h0 := hide_ h0
    replace hI := hide_ hI
    clear hD
    refine calls_keep ?_
    go_enter Try.func6, Try.ntmps6
    go_wp2_with (first
      | (go_at_call 8; refine (lotAlive_any _).mono ?_; rintro e w4 ⟨rfl, hX⟩)
      | (go_at_call 9; refine (Check_any (h0.out.ext hX) hI.out).mono ?_; rintro e w4 ⟨rfl, hx⟩; rw [e0.out]; replace hX := hX.trans hx; clear hx)
      | fail)
    go_ret
    exact Keep.intro ⟨rfl, hX⟩

set_option maxRecDepth 100000 in
theorem lotCounts_lifted (os : Os) (started : os.Started) (H : Type) (enc : TypeId × Value → H) :
    ReturnsInHanded {} Try.checked os 6 .any (Rows.lotCountsSpec.pre6 enc Try.prog Try.f6 Rows.lotCountsRow.domain false) (Rows.lotCountsSpec.post enc Try.prog Try.f6 false true false false) := by
  refine law_lifted (s := Rows.lotCountsSpec) (conds := Rows.lotCountsRow.domain) Try.func6 (by kernel_rfl) rfl (fun H ds h => by
      rw [show Try.f6.params.size = 1 from rfl] at h
      match ds, h with
      | [d0], _ => rfl) rfl rfl (by decide +kernel) os started H enc
    (ChangeSpec.witness6 (enc := enc) (C := Try.checked) false ⟨#[], #[.slice none 0 0], []⟩ 8 (by kernel_rfl) (by kernel_rfl) (by kernel_rfl) (by kernel_rfl)) ?_
  intro W base args ds p hval hA hsz _
  have hp : Try.f6.params.toList = [25] := rfl
  rw [hp] at hA hsz
  obtain ⟨v0, d0, rfl, rfl, h0⟩ := trodAll_one hA
  obtain ⟨l0, a0, b0, c0⟩ := arg_ints hsz (j := 0) rfl rfl (hval 0 25 v0 rfl rfl) h0
  exact lotCounts_law v0 l0 W a0 b0

theorem lotCounts_holds : Rows.LotCountsSaid :=
  OpenClaim.holds_of_wide 6 Try.f6 rfl rfl rfl rfl rfl rfl rfl ⟨rfl, rfl, rfl, rfl, rfl⟩ rfl rfl rfl rfl rfl (by kernel_rfl) Try.func6 (by kernel_rfl)
    (of_decide_eq_true (by kernel_rfl)) (by unfold Func.isWrapper; first | (rw [if_pos (by decide +kernel)]; kernel_rfl) | (rw [if_neg (by decide +kernel)]; exact ⟨rfl, rfl⟩))
    (fun os started H enc _ => lotCounts_lifted os started H enc)
#print axioms lotCounts_holds

end Go.Proofs.Ytnbnbnjojnlcpaa
