/- The statement LedgerChain: with nothing decided the available ledger is what is confirmed; a decision twice adds nothing. No condition. -/
import Derived.Test.YtdoeoncmhaihbaaLgLa
import Derived.Test.YtdoeoncmhaihbaaLgArg
import Derived.Test.YtdoeoncmhaihbaaLgG
import Derived.Test.YtdoeoncmhaihbaaLotR
namespace Go.Proofs.Ytdoeoncmhaihbaa
set_option maxRecDepth 100000
open Go.RowKit Go.ChangeShapes Go.WideShapes Go.ChangeAt

theorem i64s_dbl {l : List Int} (h : I64s l) : I64s (dbl l) := fun x hx => by
  unfold dbl at hx
  obtain ⟨y, hy, hx⟩ := List.mem_flatMap.1 hx
  simp only [List.mem_cons, List.not_mem_nil, or_false, or_self] at hx
  exact hx ▸ h y hy

set_option maxRecDepth 100000 in
set_option maxHeartbeats 6400000 in
theorem ledgerChain_law (v0 : Value) (l0 : List Int) (v1 : Value) (l : List BlkD) (v2 : Value) (xs : List Int) (W : World) (h00 : Ints W v0 l0) (hl0 : Recs 5 BlkL W v1 l) (hx0 : Ints W v2 xs) (hxI0 : I64s xs) :
    Calls Try.prog 8 #[v0, v1, v2] W fun e w' => e = .returned (.bool true) ∧ Ext W w' := by
  refine calls_keep ?_
  have h0 := hide_ h00
  have hbl := hide_ hl0
  have hxs := hide_ hx0
  have hxI := hide_ hxI0
  clear h00 hl0 hx0 hxI0
  by_cases hD0 : DrOk l0
  rotate_left
  · have e0 := hide_ (show lchk l0 = 101 from if_neg hD0)
    clear hD0
    go_enter Try.func8, Try.ntmps8
    go_wp2_with (first
      | go_big_skip
      | (go_at_call 10; refine (ledgerAlive_any _).mono ?_; rintro e w2 ⟨rfl, hX⟩)
      | (go_at_call 17; refine (refCheck_any (h0.out.ext hX)).mono ?_; rintro e w4 ⟨rfl, hx⟩; rw [e0.out]; replace hX := hX.trans hx; clear hx)
      | fail)
    go_ret
    exact Keep.intro ⟨rfl, hX⟩
  have e0 := hide_ (show lchk l0 = 0 from if_pos hD0)
  have hD := hide_ hD0
  by_cases hb1 : 40 < l.length
  · have t1 : decide ((40 : Int) < (l.length : Int)) = true := decide_eq_true (by omega)
    have t1' : decide ((l.length : Int) > 40) = true := decide_eq_true (by omega)
    clear hD0 hb1
    go_enter Try.func8, Try.ntmps8
    go_wp2_with ((first
      | go_big_skip
      | (go_at_call 10; refine (ledgerAlive_any _).mono ?_; rintro e w2 ⟨rfl, hX⟩)
      | (go_at_call 17; refine (refCheck_any (h0.out.ext hX)).mono ?_; rintro e w4 ⟨rfl, hx⟩; rw [e0.out]; replace hX := hX.trans hx; clear hx)
      | ((with_reducible refine at_bi ?_); (try refine w_yes _ _ _ rfl rfl rfl ?_); refine w_rlen Try.enBlk.elS _ rfl rfl rfl (hbl.out.ext BlkL.stays hX) ?_)
      | fail) <;> (try simp only [Act.put, List.setIfInBounds_toArray, List.set_cons_zero, List.set_cons_succ]))
    go_ret
    exact Keep.intro ⟨rfl, hX⟩
  have t1 : decide ((40 : Int) < (l.length : Int)) = false := decide_eq_false (by omega)
  have t1' : decide ((l.length : Int) > 40) = false := decide_eq_false (by omega)
  by_cases hb2 : 20 < xs.length
  · have t2 : decide ((20 : Int) < (xs.length : Int)) = true := decide_eq_true (by omega)
    have t2' : decide ((xs.length : Int) > 20) = true := decide_eq_true (by omega)
    clear hD0 hb1 hb2
    go_enter Try.func8, Try.ntmps8
    go_wp2_with ((first
      | go_big_skip
      | (go_at_call 10; refine (ledgerAlive_any _).mono ?_; rintro e w2 ⟨rfl, hX⟩)
      | (go_at_call 17; refine (refCheck_any (h0.out.ext hX)).mono ?_; rintro e w4 ⟨rfl, hx⟩; rw [e0.out]; replace hX := hX.trans hx; clear hx)
      | ((with_reducible refine at_bi ?_); (try refine w_yes _ _ _ rfl rfl rfl ?_); refine w_rlen Try.enBlk.elS _ rfl rfl rfl (hbl.out.ext BlkL.stays hX) ?_)
      | ((with_reducible refine at_bi ?_); (try refine w_yes _ _ _ rfl rfl rfl ?_); refine i_len _ rfl rfl rfl (hxs.out.ext hX) ?_)
      | fail) <;> (try simp only [Act.put, List.setIfInBounds_toArray, List.set_cons_zero, List.set_cons_succ]))
    go_ret
    exact Keep.intro ⟨rfl, hX⟩
  have t2 : decide ((20 : Int) < (xs.length : Int)) = false := decide_eq_false (by omega)
  have t2' : decide ((xs.length : Int) > 20) = false := decide_eq_false (by omega)
  have h40 := hide_ (show l.length ≤ 40 by omega)
  have h20 := hide_ (show xs.length ≤ 42 by omega)
  have hx20 := hide_ (show xs.length ≤ 20 by omega)
  have hbig := hide_ (show (([] : List Int).length + xs.length) * 8 ≤ 140737488355328 from by simp; omega)
  clear hD0 hb1 hb2
  go_enter Try.func8, Try.ntmps8

  have tokN : True := trivial
  have tokS : True := trivial
  go_wp2_with ((first
    | go_big_skip
    | (go_at_call 10; refine (ledgerAlive_any _).mono ?_; rintro e w2 ⟨rfl, hX⟩)
    | (go_at_call 17; refine (refCheck_any (h0.out.ext hX)).mono ?_; rintro e w4 ⟨rfl, hx⟩; rw [e0.out]; replace hX := hX.trans hx; clear hx)
    | (go_at_call 18; refine (grownL_any (h0.out.ext hX) hD.out (hbl.out.ext BlkL.stays hX)).mono ?_; rintro e w5 ⟨q, p, dv, vk, vw, H, rfl, hG⟩; replace hX := hX.trans hG.x)
    | ((with_reducible refine at_bi ?_); (try refine w_yes _ _ _ rfl rfl rfl ?_); refine w_rlen Try.enBlk.elS _ rfl rfl rfl (hbl.out.ext BlkL.stays hX) ?_)
    | ((with_reducible refine at_bi ?_); (try refine w_yes _ _ _ rfl rfl rfl ?_); refine i_len _ rfl rfl rfl (hxs.out.ext hX) ?_)
    | ((with_reducible refine at_alloc ?_); refine w_allocN Try.stDocC rfl rfl ?_; intro g8 w6 hg8 hx2 f8)
    | (with_reducible refine at_store ?_; refine w_astoreN Try.stDocC (.tmp 8) _ (us := cRow vk vw v0 1 200) rfl rfl rfl rfl rfl f8 rfl rfl hG.one ?_; intro w7 hm3 f9; replace hx2 := hm3.after hx2 (fun i hi => by subst hi; exact hg8); replace hG := hG.ext hx2; replace hX := hX.trans hx2; have hr0 := hide_ hG.c.raw; have hri := hide_ hG.c.rights; have hcI := hide_ (show I64 (backN (TrS.path (gr l0 l).known (TrS.tip (gr l0 l).known)) 1) from back_i64 hG.c.uq hG.c.tr.fit.stood _ _); obtain ⟨c, hc0⟩ : ∃ c, backN (TrS.path (gr l0 l).known (TrS.tip (gr l0 l).known)) 1 = c := ⟨_, rfl⟩; have hc := hide_ hc0; rw [hc0] at hcI; have hl38 := hide_ (show ([ids (gr l0 l).known c].flatten).length ≤ 600000 from by have h3 := ids_len hri.out c; simp; omega); clear hm3 f9 hx2 hg8 f8 hc0)
    | (go_at_call 13; refine (Avail_any (xs := []) hG.c (Ints.nil _) (by intro x hx; cases hx) (by simp)).mono ?_; rintro e w6 ⟨v34, rfl, o34, hx⟩; rw [hc.out, avL_nil] at o34; replace o34 := o34.ints; replace hG := hG.ext hx; replace hX := hX.trans hx; clear hx)
    | (go_at_call 24; refine (CConf_any hG.c).mono ?_; rintro e w6 ⟨rfl, hx⟩; rw [hc.out]; replace o34 := Sl.ext o34 hx; replace hG := hG.ext hx; replace hX := hX.trans hx; clear hx)
    | (go_at_call 23; refine (CTxs_any hG.c hcI.out).mono ?_; rintro e w6 ⟨v38, rfl, o38, hx⟩; replace o38 := o38.ints; replace o34 := Sl.ext o34 hx; replace hG := hG.ext hx; replace hX := hX.trans hx; clear hx)
    | ((with_reducible refine at_lit ?_); refine w_new Try.elLL [v38] rfl rfl rfl (one1 (oneCell_cells (Sl.one' o38))) rfl (by omega) ?_; intro v39 w6 hx o39; have r39 := recs_one1 (Sl.of_own o39) (Sl.ext o38 hx) (ids_i64 hr0.out c); replace o34 := Sl.ext o34 hx; replace hG := hG.ext hx; replace hX := hX.trans hx; clear hx o39 o38)
    | (go_at_call 11; refine (Clean_any r39 hl38.out).mono ?_; rintro e w6 ⟨v40, rfl, o40, hx⟩; rw [show [ids (gr l0 l).known c].flatten = ids (gr l0 l).known c from by simp] at o40; replace o40 := o40.ints; replace o34 := Sl.ext o34 hx; replace hG := hG.ext hx; replace hX := hX.trans hx; clear hx r39)
    | (go_at_call 15; refine (SameInts_any _ _ (cl (ids (gr l0 l).known c)) _ o34 o40).mono ?_; rintro e w6 ⟨rfl, hx⟩; replace hG := hG.ext hx; replace hX := hX.trans hx; clear hx o34 o40)
    | (go_at_call 12; have _t := tokN; refine (Final_any (xs := []) hG.c (Ints.nil _) (by intro x hx; cases hx) (by simp)).mono ?_; rintro e w6 ⟨vf, rfl, ov, hx⟩; rw [finL_nil] at ov; replace ov := ov.ints; replace hG := hG.ext hx; replace hX := hX.trans hx; clear hx tokN)
    | ((with_reducible refine at_bi ?_); (try refine w_yes _ _ _ rfl rfl rfl ?_); refine i_len (l := []) _ rfl rfl rfl ov ?_; clear ov)
    | ((with_reducible refine at_lit ?_); refine w_new Try.elI (i64s []) rfl rfl rfl (i64s_cells _) rfl (by omega) ?_; intro v5 w8 hx o5; replace o5 : OwnI _ w8 v5 [] := o5; have hG8 := hide_ hG; have hX8 := hide_ hX; have hZ := hx; clear hx hX)
    | ((with_reducible refine at_bi ?_); refine i_len _ rfl rfl rfl (hxs.out.ext (hX8.out.trans hZ)) ?_)
    | fail) <;> (try simp only [Act.put, List.setIfInBounds_toArray, List.set_cons_zero, List.set_cons_succ]))
  go_loopw [9, 52] (fun u9 i wr => ∃ k : Nat, i = .int .i64 k ∧ k ≤ xs.length ∧ OwnI w6.heap.size wr u9 (dbl (xs.take k)) ∧ Ext w6 wr) (fun _ i _ => xs.length - (RowKit.intOf i).toNat)
  case atStart => exact ⟨0, rfl, Nat.zero_le _, o5, hZ⟩
  case round =>
    clear o5 hZ
    obtain ⟨k, rfl, hk, o5, hZ⟩ := hrel
    by_cases hge : xs.length ≤ k
    · obtain rfl : k = xs.length := by omega
      have t3 : decide (xs.length < xs.length) = false := by simp
      rw [List.take_length] at o5
      have i9 := hide_ o5.ints
      have hG9 := hide_ (hG8.out.ext hZ)
      have hX9 := hide_ (hX8.out.trans hZ)
      have hdI := hide_ (i64s_dbl hxI.out)
      have hdl := hide_ (show (dbl xs).length ≤ 42 from by rw [dbl_len]; have := hx20.out; omega)
      obtain ⟨K, hK0⟩ : ∃ K, (gr l0 l).known = K := ⟨_, rfl⟩
      have hC9 := hG9.out.c
      rw [hK0] at hC9
      replace hC9 := hide_ hC9
      have hfd := hide_ (finL_dbl K xs)
      have had := hide_ (avL_dbl K xs (backN (TrS.path K (TrS.tip K)) 1))
      have hY := Ext.refl wr
      have tok1 : True := trivial
      have tok2 : True := trivial
      have tok3 : True := trivial
      clear hge o5 hZ hK0
      go_wp2_with (first
        | (go_at_call 12; have _t := tok1; refine (Final_any (hC9.out.ext hY) (i9.out.ext hY) hdI.out hdl.out).mono ?_; rintro e w6 ⟨v64, rfl, o64, hx⟩; rw [hfd.out] at o64; replace o64 := o64.ints; replace hY := hY.trans hx; clear hx tok1)
        | (go_at_call 12; refine (Final_any (hC9.out.ext hY) (hxs.out.ext (hX9.out.trans hY)) hxI.out h20.out).mono ?_; rintro e w6 ⟨v67, rfl, o67, hx⟩; replace o67 := o67.ints; replace o64 := Sl.ext o64 hx; replace hY := hY.trans hx; clear hx)
        | (go_at_call 13; have _t := tok2; refine (Avail_any (hC9.out.ext hY) (i9.out.ext hY) hdI.out hdl.out).mono ?_; rintro e w6 ⟨v72, rfl, o72, hx⟩; rw [had.out] at o72; replace o72 := o72.ints; replace hY := hY.trans hx; clear hx tok2)
        | (go_at_call 13; refine (Avail_any (hC9.out.ext hY) (hxs.out.ext (hX9.out.trans hY)) hxI.out h20.out).mono ?_; rintro e w6 ⟨v75, rfl, o75, hx⟩; replace o75 := o75.ints; replace o72 := Sl.ext o72 hx; replace hY := hY.trans hx; clear hx)
        | (go_at_call 15; have _t := tok3; refine (SameInts_any _ _ (finL K xs) _ o64 o67).mono ?_; rintro e w6 ⟨rfl, hx⟩; replace hY := hY.trans hx; clear hx o64 o67 tok3)
        | (go_at_call 15; refine (SameInts_any _ _ (avL K xs (backN (TrS.path K (TrS.tip K)) 1)) _ o72 o75).mono ?_; rintro e w6 ⟨rfl, hx⟩; replace hY := hY.trans hx; clear hx o72 o75)
        | fail)
      go_ret
      exact Keep.intro ⟨rfl, hX9.out.trans hY⟩
    have hlt : k < xs.length := by omega
    have t3 : decide (k < xs.length) = true := by simpa using hlt
    obtain ⟨x, hx0⟩ : ∃ x, xs[k] = x := ⟨_, rfl⟩
    have hlt' := hide_ hlt
    have hxx := hide_ (show xs[k]'(hlt'.out) = x from hx0)
    have hst := hide_ (show dbl (xs.take (k + 1)) = dbl (xs.take k) ++ [x, x] from dbl_take (by rw [List.getElem?_eq_getElem hlt, hx0]))
    have hkb : k ≤ 20 := by have := hx20.out; omega
    have hB8 := hide_ (show ((dbl (xs.take k)).length + [x, x].length) * 8 ≤ 140737488355328 from by rw [dbl_len, List.length_take]; simp; omega)
    clear hge hlt hx0
    go_wp2_with ((first
      | ((with_reducible refine at_idx ?_); refine i_idx _ _ k rfl rfl rfl (hxs.out.ext (hX8.out.trans hZ)) rfl hlt'.out ?_; intro ad had; rw [hxx.out] at had)
      | ((with_reducible refine at_lit ?_); refine w_new Try.elI (i64s [x, x]) rfl rfl rfl (i64s_cells _) rfl (by omega) ?_; intro v3 w6 hx3 o3; replace o3 : OwnI _ w6 v3 [x, x] := o3; replace o3 := o3.ints; replace o5 := o5.ext hx3; replace hZ := hZ.trans hx3; clear hx3)
      | ((with_reducible refine at_bi ?_); refine appi _ _ rfl rfl rfl rfl o5 o3 hB8.out hZ.size ?_; intro v9 w9 o9 hb9 hg9 hg9'; replace hZ := hZ.trans' hb9; clear o5 o3 hb9 hg9 hg9')
      | fail) <;> (try simp only [Act.put, List.setIfInBounds_toArray, List.set_cons_zero, List.set_cons_succ]))
    go_roundw
    case rel => exact ⟨k + 1, by go_num, hlt'.out, by rw [hst.out]; exact o9, hZ⟩
    case measure => have := hlt'.out; simp [RowKit.intOf]; omega

set_option maxRecDepth 100000 in
theorem ledgerChain_lifted (os : Os) (started : os.Started) (H : Type) (enc : TypeId × Value → H) :
    ReturnsInHanded {} Try.checked os 8 .any (Rows.ledgerChainSpec.pre6 enc Try.prog Try.f8 Rows.ledgerChainRow.domain false) (Rows.ledgerChainSpec.post enc Try.prog Try.f8 false true false false) := by
  refine law_lifted (s := Rows.ledgerChainSpec) (conds := Rows.ledgerChainRow.domain) Try.func8 (by kernel_rfl) rfl (fun H ds h => by
      rw [show Try.f8.params.size = 3 from rfl] at h
      match ds, h with
      | [d0, d1, d2], _ => rfl) rfl rfl (by decide +kernel) os started H enc
    (ChangeSpec.witness6 (enc := enc) (C := Try.checked) false ⟨#[], #[.slice none 0 0, .slice none 0 0, .slice none 0 0], []⟩ 8 (by kernel_rfl) (by kernel_rfl) (by kernel_rfl) (by kernel_rfl)) ?_
  intro W base args ds p hval hA hsz _
  have hp : Try.f8.params.toList = [25, 33, 25] := rfl
  rw [hp] at hA hsz
  obtain ⟨v0, v1, v2, d0, d1, d2, p0, p1, p2, rfl, rfl, rfl, h0, h1, h2⟩ := trodAll_three hA
  obtain ⟨l0, a0, b0, c0⟩ := arg_ints hsz (j := 0) rfl rfl (hval 0 25 v0 rfl rfl) h0
  obtain ⟨l1, k1⟩ := arg_Blks hsz (j := 1) rfl rfl (hval 1 33 v1 rfl rfl) h1
  obtain ⟨l2, a2, b2, c2⟩ := arg_ints hsz (j := 2) rfl rfl (hval 2 25 v2 rfl rfl) h2
  exact ledgerChain_law v0 l0 v1 l1 v2 l2 W a0 k1 a2 b2

theorem ledgerChain_holds : Rows.LedgerChainSaid :=
  OpenClaim.holds_of_wide 8 Try.f8 rfl rfl rfl rfl rfl rfl rfl ⟨rfl, rfl, rfl, rfl, rfl⟩ rfl rfl rfl rfl rfl (by kernel_rfl) Try.func8 (by kernel_rfl)
    (of_decide_eq_true (by kernel_rfl)) (by unfold Func.isWrapper; first | (rw [if_pos (by decide +kernel)]; kernel_rfl) | (rw [if_neg (by decide +kernel)]; exact ⟨rfl, rfl⟩))
    (fun os started H enc _ => ledgerChain_lifted os started H enc)
#print axioms ledgerChain_holds

end Go.Proofs.Ytdoeoncmhaihbaa
