/- The statement LedgerOnce: cleaned twice is cleaned once; in two parts, one behind the other; nothing is lost. No condition. -/
import Derived.Test.YtdoeoncmhaihbaaLgLa
import Derived.Test.YtdoeoncmhaihbaaLgArg
import Derived.Test.YtdoeoncmhaihbaaLgB
namespace Go.Proofs.Ytdoeoncmhaihbaa
set_option maxRecDepth 100000
open Go.RowKit Go.ChangeShapes Go.WideShapes Go.ChangeAt

set_option maxRecDepth 100000 in
set_option maxHeartbeats 6400000 in
theorem ledgerOnce_law (v0 : Value) (la : List Int) (v1 : Value) (lb : List Int) (W : World) (h00 : Ints W v0 la) (hI0 : I64s la) (h10 : Ints W v1 lb) (hI1 : I64s lb) :
    Calls Try.prog 7 #[v0, v1] W fun e w' => e = .returned (.bool true) ∧ Ext W w' := by
  refine calls_keep ?_
  have ha := hide_ h00
  have hb := hide_ h10
  have hIa := hide_ hI0
  have hIb := hide_ hI1
  have hona := hide_ (Sl.one' h00)
  have honb := hide_ (Sl.one' h10)
  clear h00 h10 hI0 hI1
  by_cases hb1 : 200 < la.length
  · have t1 : decide ((200 : Int) < (la.length : Int)) = true := decide_eq_true (by omega)
    have t1' : decide ((la.length : Int) > 200) = true := decide_eq_true (by omega)
    clear hb1
    go_enter Try.func7, Try.ntmps7
    go_wp2_with ((first
      | go_big_skip
      | (go_at_call 10; refine (ledgerAlive_any _).mono ?_; rintro e w2 ⟨rfl, hX⟩)
      | ((with_reducible refine at_bi ?_); (try refine w_yes _ _ _ rfl rfl rfl ?_); refine i_len _ rfl rfl rfl (ha.out.ext hX) ?_)
      | fail) <;> (try simp only [Act.put, List.setIfInBounds_toArray, List.set_cons_zero, List.set_cons_succ]))
    go_ret
    exact Keep.intro ⟨rfl, hX⟩
  have t1 : decide ((200 : Int) < (la.length : Int)) = false := decide_eq_false (by omega)
  have t1' : decide ((la.length : Int) > 200) = false := decide_eq_false (by omega)
  by_cases hb2 : 200 < lb.length
  · have t2 : decide ((200 : Int) < (lb.length : Int)) = true := decide_eq_true (by omega)
    have t2' : decide ((lb.length : Int) > 200) = true := decide_eq_true (by omega)
    clear hb1 hb2
    go_enter Try.func7, Try.ntmps7
    go_wp2_with ((first
      | go_big_skip
      | (go_at_call 10; refine (ledgerAlive_any _).mono ?_; rintro e w2 ⟨rfl, hX⟩)
      | ((with_reducible refine at_bi ?_); (try refine w_yes _ _ _ rfl rfl rfl ?_); refine i_len _ rfl rfl rfl (ha.out.ext hX) ?_)
      | ((with_reducible refine at_bi ?_); (try refine w_yes _ _ _ rfl rfl rfl ?_); refine i_len _ rfl rfl rfl (hb.out.ext hX) ?_)
      | fail) <;> (try simp only [Act.put, List.setIfInBounds_toArray, List.set_cons_zero, List.set_cons_succ]))
    go_ret
    exact Keep.intro ⟨rfl, hX⟩
  have t2 : decide ((200 : Int) < (lb.length : Int)) = false := decide_eq_false (by omega)
  have t2' : decide ((lb.length : Int) > 200) = false := decide_eq_false (by omega)
  obtain ⟨A, hA0⟩ : ∃ A, cl (la ++ lb) = A := ⟨_, rfl⟩
  have hA := hide_ (show cl [la, lb].flatten = A from by rw [← hA0]; simp)
  have hAA := hide_ (show cl [A].flatten = A from by rw [← hA0]; simp; exact cl_idem _)
  have hab := hide_ (show cl [cl [la].flatten, cl [lb].flatten].flatten = A from by rw [← hA0]; simp; exact cl_two _ _)
  have hpre := hide_ (show cl [la].flatten <+: A from by rw [← hA0]; simp; exact cl_pre (List.prefix_append _ _))
  have hAI := hide_ (show I64s A from by rw [← hA0]; exact i64s_cl fun x hx => (List.mem_append.1 hx).elim (hIa.out x) (hIb.out x))
  have hAl := hide_ (show A.length ≤ 400 from by have h1 := cl_len (la ++ lb); rw [hA0, List.length_append] at h1; omega)
  have hl2 := hide_ (show [la, lb].flatten.length ≤ 600000 from by simp; omega)
  have hlA := hide_ (show [A].flatten.length ≤ 600000 from by have := hAl.out; simp; omega)
  have hla1 := hide_ (show [la].flatten.length ≤ 600000 from by simp; omega)
  have hlb1 := hide_ (show [lb].flatten.length ≤ 600000 from by simp; omega)
  have hll := hide_ (show [cl [la].flatten, cl [lb].flatten].flatten.length ≤ 600000 from by
    have h1 := cl_len [la].flatten
    have h2 := cl_len [lb].flatten
    simp at h1 h2 ⊢; omega)
  have hIca := hide_ (show I64s (cl [la].flatten) from i64s_cl (by simpa using hIa.out))
  have hIcb := hide_ (show I64s (cl [lb].flatten) from i64s_cl (by simpa using hIb.out))
  have hone1 := hide_ (show ∀ x ∈ la ++ lb, A.count x = 1 from fun x hx => by rw [← hA0]; exact count_one (cl_nodup _) (mem_cl.2 hx))
  have hbig1 := hide_ (show (([] : List Int).length + la.length) * 8 ≤ 140737488355328 from by simp; omega)
  have hbig2 := hide_ (show (([] ++ la : List Int).length + lb.length) * 8 ≤ 140737488355328 from by simp; omega)
  obtain ⟨L, hL0⟩ : ∃ L, la ++ lb = L := ⟨_, rfl⟩
  have hL := hide_ hL0
  have hLl := hide_ (show L.length ≤ 400 from by rw [← hL0, List.length_append]; omega)
  rw [hL0] at hone1
  clear hb1 hb2 hA0 hL0
  go_enter Try.func7, Try.ntmps7
  have tokA : True := trivial
  have tokC : True := trivial
  go_wp2_with ((first
    | go_big_skip
    | (go_at_call 10; refine (ledgerAlive_any _).mono ?_; rintro e w2 ⟨rfl, hX⟩)
    | ((with_reducible refine at_lit ?_); refine w_new Try.elLL [v0, v1] rfl rfl rfl (one2 (oneCell_cells hona.out) (oneCell_cells honb.out)) rfl (by omega) ?_; intro v23 w4 hx o23; have r23 := recs_two2 (Sl.of_own o23) (ha.out.ext (hX.trans hx)) hIa.out (hb.out.ext (hX.trans hx)) hIb.out; replace hX := hX.trans hx; clear hx o23)
    | (go_at_call 11; refine (Clean_any r23 hl2.out).mono ?_; rintro e w5 ⟨v24, rfl, o24, hx⟩; rw [hA.out] at o24; have i24 := hide_ o24.ints; have hX5 := hide_ (hX.trans hx); have hone24 := hide_ (Sl.one' o24.ints); have hY := Ext.refl w5; clear hx r23 hX o24)
    | ((with_reducible refine at_lit ?_); refine w_new Try.elLL [v24] rfl rfl rfl (one1 (oneCell_cells hone24.out)) rfl (by omega) ?_; intro v26 w6 hx o26; have r26 := recs_one1 (Sl.of_own o26) (i24.out.ext (hY.trans hx)) hAI.out; replace hY := hY.trans hx; clear hx o26)
    | (go_at_call 11; refine (Clean_any r26 hlA.out).mono ?_; rintro e w7 ⟨v27, rfl, o27, hx⟩; rw [hAA.out] at o27; replace o27 := o27.ints; replace hY := hY.trans hx; clear hx r26)
    | (go_at_call 15; have _t := tokA; refine (SameInts_any _ _ A _ o27 (i24.out.ext hY)).mono ?_; rintro e w8 ⟨rfl, hx⟩; replace hY := hY.trans hx; clear hx o27 tokA)
    | ((with_reducible refine at_lit ?_); (try refine w_yes _ _ _ rfl rfl rfl ?_); refine w_new Try.elLL [v0] rfl rfl rfl (one1 (oneCell_cells hona.out)) rfl (by omega) ?_; intro v33 w6 hx o33; have r33 := recs_one1 (Sl.of_own o33) (ha.out.ext (hX5.out.trans (hY.trans hx))) hIa.out; (try replace i34 := Sl.ext i34 hx); replace hY := hY.trans hx; clear hx o33)
    | ((with_reducible refine at_lit ?_); (try refine w_yes _ _ _ rfl rfl rfl ?_); refine w_new Try.elLL [v1] rfl rfl rfl (one1 (oneCell_cells honb.out)) rfl (by omega) ?_; intro v36 w6 hx o36; have r36 := recs_one1 (Sl.of_own o36) (hb.out.ext (hX5.out.trans (hY.trans hx))) hIb.out; replace i34 := Sl.ext i34 hx; replace hY := hY.trans hx; clear hx o36)
    | (go_at_call 11; refine (Clean_any r33 hla1.out).mono ?_; rintro e w7 ⟨v34, rfl, o34, hx⟩; have i34 := o34.ints; have hone34 := hide_ (Sl.one' o34.ints); replace hY := hY.trans hx; clear hx r33 o34)
    | (go_at_call 11; refine (Clean_any r36 hlb1.out).mono ?_; rintro e w7 ⟨v37, rfl, o37, hx⟩; have i37 := o37.ints; have hone37 := hide_ (Sl.one' o37.ints); replace i34 := Sl.ext i34 hx; replace hY := hY.trans hx; clear hx r36 o37)
    | ((with_reducible refine at_lit ?_); (try refine w_yes _ _ _ rfl rfl rfl ?_); refine w_new Try.elLL [v34, v37] rfl rfl rfl (one2 (oneCell_cells hone34.out) (oneCell_cells hone37.out)) rfl (by omega) ?_; intro v38 w6 hx o38; have r38 := recs_two2 (Sl.of_own o38) (Sl.ext i34 hx) hIca.out (Sl.ext i37 hx) hIcb.out; replace hY := hY.trans hx; clear hx o38 i34 i37)
    | (go_at_call 11; refine (Clean_any r38 hll.out).mono ?_; rintro e w7 ⟨v39, rfl, o39, hx⟩; rw [hab.out] at o39; have i39 := o39.ints; replace hY := hY.trans hx; clear hx r38 o39)
    | (go_at_call 15; refine (SameInts_any _ _ A _ i39 (i24.out.ext hY)).mono ?_; rintro e w8 ⟨rfl, hx⟩; replace hY := hY.trans hx; clear hx i39)
    | (go_at_call 22; refine (begins_yes i34 (i24.out.ext hY) hpre.out).mono ?_; rintro e w8 ⟨rfl, hx⟩; replace hY := hY.trans hx; clear hx i34)
    | ((with_reducible refine at_lit ?_); refine w_new Try.elI (i64s []) rfl rfl rfl (i64s_cells _) rfl (by omega) ?_; intro v5 w9 hx3 o5; replace o5 : OwnI _ w9 v5 [] := o5; have hs5 := hx3.size)
    | ((with_reducible refine at_bi ?_); have _t := tokC; refine appi _ _ rfl rfl rfl rfl o5 (ha.out.ext (hX5.out.trans (hY.trans hx3))) hbig1.out hs5 ?_; intro v9 w10 o9 hb9 hg9 hg9'; have hx4 := hx3.trans' hb9; have hs9 := hx4.size; clear hb9 hg9 hg9' hs5 o5 tokC hx3)
    | ((with_reducible refine at_bi ?_); refine appi _ _ rfl rfl rfl rfl o9 (hb.out.ext (hX5.out.trans (hY.trans hx4))) hbig2.out hs9 ?_; intro v10 w11 o10 hb9 hg9 hg9'; rw [List.nil_append, hL.out] at o10; have i10 := hide_ o10.ints; have hY11 := hide_ (hY.trans (hx4.trans' hb9)); have hZ := Ext.refl w11; clear hb9 hg9 hg9' hs9 o9 hY o10 hx4)
    | ((with_reducible refine at_bi ?_); refine i_len _ rfl rfl rfl (i10.out.ext hZ) ?_)
    | ((with_reducible refine at_bi ?_); (try refine w_yes _ _ _ rfl rfl rfl ?_); refine i_len _ rfl rfl rfl (ha.out.ext hX) ?_)
    | ((with_reducible refine at_bi ?_); (try refine w_yes _ _ _ rfl rfl rfl ?_); refine i_len _ rfl rfl rfl (hb.out.ext hX) ?_)
    | fail) <;> (try simp only [Act.put, List.setIfInBounds_toArray, List.set_cons_zero, List.set_cons_succ]))
  go_loopw [58] (fun i wr => ∃ k : Nat, i = .int .i64 k ∧ k ≤ L.length ∧ Ext w11 wr) (fun i _ => L.length - (RowKit.intOf i).toNat)
  case atStart => exact ⟨0, rfl, Nat.zero_le _, hZ⟩
  case round =>
    clear hZ
    obtain ⟨k, rfl, hk, hZ⟩ := hrel
    by_cases hge : L.length ≤ k
    · obtain rfl : k = L.length := by omega
      have t3 : decide (L.length < L.length) = false := by simp
      clear hge
      go_wp2
      go_ret
      exact Keep.intro ⟨rfl, hX5.out.trans (hY11.out.trans hZ)⟩
    have hlt : k < L.length := by omega
    have t3 : decide (k < L.length) = true := by simpa using hlt
    obtain ⟨x, hx0⟩ : ∃ x, L[k] = x := ⟨_, rfl⟩
    have hlt' := hide_ hlt
    have hxx := hide_ (show L[k]'(hlt'.out) = x from hx0)
    have hcx := hide_ (hone1.out x (hx0 ▸ List.getElem_mem hlt))
    have hkb : k ≤ 400 := by have := hLl.out; omega
    clear hge hlt hx0
    go_wp2_with ((first
      | ((with_reducible refine at_idx ?_); refine i_idx _ _ k rfl rfl rfl (i10.out.ext hZ) rfl hlt'.out ?_; intro ad had; rw [hxx.out] at had)
      | ((with_reducible refine at_bi ?_); refine i_len _ rfl rfl rfl (i24.out.ext (hY11.out.trans hZ)) ?_)
      | fail) <;> (try simp only [Act.put, List.setIfInBounds_toArray, List.set_cons_zero, List.set_cons_succ]))
    go_loopw [8, 64] (fun u8 i wy => ∃ m : Nat, i = .int .i64 m ∧ m ≤ A.length ∧ u8 = .int .i64 ((A.take m).count x : Nat) ∧ Ext w11 wy) (fun _ i _ => A.length - (RowKit.intOf i).toNat)
    case atStart => exact ⟨0, rfl, Nat.zero_le _, by simp, hZ⟩
    case round =>
      clear hZ
      obtain ⟨m, rfl, hm, rfl, hZ⟩ := hrel
      by_cases hge : A.length ≤ m
      · obtain rfl : m = A.length := by omega
        have t4 : decide (A.length < A.length) = false := by simp
        rw [List.take_length, hcx.out]
        clear hge
        go_wp2
        go_roundw
        case rel => exact ⟨k + 1, by go_num, hlt'.out, hZ⟩
        case measure => have := hlt'.out; simp [RowKit.intOf]; omega
      have hml : m < A.length := by omega
      have t4 : decide (m < A.length) = true := by simpa using hml
      obtain ⟨y, hy0⟩ : ∃ y, A[m] = y := ⟨_, rfl⟩
      have hml' := hide_ hml
      have hyy := hide_ (show A[m]'(hml'.out) = y from hy0)
      have e1 : A.take (m + 1) = A.take m ++ [y] := by rw [List.take_add_one, List.getElem?_eq_getElem hml, hy0]; rfl
      obtain ⟨c, hc0⟩ : ∃ c, (A.take m).count x = c := ⟨_, rfl⟩
      have hc4 : c ≤ 400 := by have h1 := List.count_le_length (a := x) (l := A.take m); rw [hc0, List.length_take] at h1; have := hAl.out; omega
      have hm4 : m ≤ 400 := by have := hAl.out; omega
      by_cases hxy : x = y
      · have txy : (x == y) = true := by simpa using hxy
        have hn := hide_ (show (A.take (m + 1)).count x = c + 1 from by rw [e1, List.count_append, hc0, hxy]; simp)
        rw [hc0]
        clear hge hml hy0 e1 hc0 hxy
        go_wp2_with ((first
          | ((with_reducible refine at_idx ?_); refine i_idx _ _ m rfl rfl rfl (i24.out.ext (hY11.out.trans hZ)) rfl hml'.out ?_; intro ad had; rw [hyy.out] at had)
          | fail) <;> (try simp only [Act.put, List.setIfInBounds_toArray, List.set_cons_zero, List.set_cons_succ]))
        go_roundw
        case rel => exact ⟨m + 1, by go_num, hml'.out, by rw [hn.out]; rfl, hZ⟩
        case measure => have := hml'.out; simp [RowKit.intOf]; omega
      have txy : (x == y) = false := by simpa using hxy
      have hn := hide_ (show (A.take (m + 1)).count x = c from by rw [e1, List.count_append, hc0, List.count_singleton]; simp [Ne.symm hxy])
      rw [hc0]
      clear hge hml hy0 e1 hc0 hxy
      go_wp2_with ((first
        | ((with_reducible refine at_idx ?_); refine i_idx _ _ m rfl rfl rfl (i24.out.ext (hY11.out.trans hZ)) rfl hml'.out ?_; intro ad had; rw [hyy.out] at had)
        | fail) <;> (try simp only [Act.put, List.setIfInBounds_toArray, List.set_cons_zero, List.set_cons_succ]))
      go_roundw
      case rel => exact ⟨m + 1, by go_num, hml'.out, by rw [hn.out], hZ⟩
      case measure => have := hml'.out; simp [RowKit.intOf]; omega

set_option maxRecDepth 100000 in
theorem ledgerOnce_lifted (os : Os) (started : os.Started) (H : Type) (enc : TypeId × Value → H) :
    ReturnsInHanded {} Try.checked os 7 .any (Rows.ledgerOnceSpec.pre6 enc Try.prog Try.f7 Rows.ledgerOnceRow.domain false) (Rows.ledgerOnceSpec.post enc Try.prog Try.f7 false true false false) := by
  refine law_lifted (s := Rows.ledgerOnceSpec) (conds := Rows.ledgerOnceRow.domain) Try.func7 (by kernel_rfl) rfl (fun H ds h => by
      rw [show Try.f7.params.size = 2 from rfl] at h
      match ds, h with
      | [d0, d1], _ => rfl) rfl rfl (by decide +kernel) os started H enc
    (ChangeSpec.witness6 (enc := enc) (C := Try.checked) false ⟨#[], #[.slice none 0 0, .slice none 0 0], []⟩ 8 (by kernel_rfl) (by kernel_rfl) (by kernel_rfl) (by kernel_rfl)) ?_
  intro W base args ds p hval hA hsz _
  have hp : Try.f7.params.toList = [25, 25] := rfl
  rw [hp] at hA hsz
  obtain ⟨v0, v1, d0, d1, p0, p1, rfl, rfl, rfl, h0, h1⟩ := trodAll_two hA
  obtain ⟨l0, a0, b0, c0⟩ := arg_ints hsz (j := 0) rfl rfl (hval 0 25 v0 rfl rfl) h0
  obtain ⟨l1, a1, b1, c1⟩ := arg_ints hsz (j := 1) rfl rfl (hval 1 25 v1 rfl rfl) h1
  exact ledgerOnce_law v0 l0 v1 l1 W a0 b0 a1 b1

theorem ledgerOnce_holds : Rows.LedgerOnceSaid :=
  OpenClaim.holds_of_wide 7 Try.f7 rfl rfl rfl rfl rfl rfl rfl ⟨rfl, rfl, rfl, rfl, rfl⟩ rfl rfl rfl rfl rfl (by kernel_rfl) Try.func7 (by kernel_rfl)
    (of_decide_eq_true (by kernel_rfl)) (by unfold Func.isWrapper; first | (rw [if_pos (by decide +kernel)]; kernel_rfl) | (rw [if_neg (by decide +kernel)]; exact ⟨rfl, rfl⟩))
    (fun os started H enc _ => ledgerOnce_lifted os started H enc)
#print axioms ledgerOnce_holds

end Go.Proofs.Ytdoeoncmhaihbaa
