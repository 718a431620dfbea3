/- GateOnce returns true: of all blocks that were said, or passed, no two of one name are unlike; none of an honest maker passed that wasn't said. No condition. -/
import Derived.Test.YtgbhbifdfcfamaaGtO
import Derived.Test.YtgbhbifdfcfamaaArgI
import Derived.Deep.Cut
namespace Go.Proofs.Ytgbhbifdfcfamaa
set_option maxRecDepth 100000
open Go.RowKit Go.ChangeShapes Go.WideShapes Go.ChangeAt

set_option maxRecDepth 100000 in
set_option maxHeartbeats 3200000 in
theorem gateOnce_law (vb : Value) (bad : List Int) (va : Value) (acts : List GacD) (w : World) (hb0 : Ints w vb bad) (ha0 : Recs 2 GacR w va acts) :
    Calls Try.prog 5 #[vb, va] w fun e w' => e = .returned (.bool true) ∧ Ext w w' := by
  refine calls_keep ?_
  have hX := Ext.refl w
  have hb := hide_ hb0
  have ha := hide_ ha0
  clear hb0 ha0
  go_enter Try.func5, Try.ntmps5
  go_upto_region 3 with (first
    | go_big_skip
    | (go_at_call 9; refine (gateAlive_any _).mono ?_; rintro e w4 ⟨rfl, hx⟩; replace hX := hX.trans hx; (try replace hY := hY.trans hx); (try replace hZ := hZ.trans hx); clear hx)
    | fail)
  by_cases hA : 60 < acts.length
  · have t1 : decide ((60 : Int) < (acts.length : Int)) = true := decide_eq_true (by omega)
    clear hA
    go_wp2_with ((first
      | go_big_skip
      | ((with_reducible refine at_bi ?_); (try refine w_yes _ _ _ rfl rfl rfl ?_); refine w_rlen Try.elGac _ rfl rfl rfl (ha.out.ext GacR.stays hX) ?_)
      | fail) <;> (try simp only [Act.put, List.setIfInBounds_toArray, List.set_cons_zero, List.set_cons_succ]))
    go_ret
    exact Keep.intro ⟨rfl, hX⟩
  have t1 : decide ((60 : Int) < (acts.length : Int)) = false := decide_eq_false (by omega)
  by_cases hB : 20 < bad.length
  · have t0 : decide ((20 : Int) < (bad.length : Int)) = true := decide_eq_true (by omega)
    clear hA hB
    go_wp2_with ((first
      | go_big_skip
      | ((with_reducible refine at_bi ?_); (try refine w_yes _ _ _ rfl rfl rfl ?_); refine w_rlen Try.elGac _ rfl rfl rfl (ha.out.ext GacR.stays hX) ?_)
      | ((with_reducible refine at_bi ?_); (try refine w_yes _ _ _ rfl rfl rfl ?_); refine i_len _ rfl rfl rfl (hb.out.ext hX) ?_)
      | fail) <;> (try simp only [Act.put, List.setIfInBounds_toArray, List.set_cons_zero, List.set_cons_succ]))
    go_ret
    exact Keep.intro ⟨rfl, hX⟩
  have t0 : decide ((20 : Int) < (bad.length : Int)) = false := decide_eq_false (by omega)
  have hbl := hide_ (show bad.length ≤ 20 from by omega)
  have hal := hide_ (show acts.length ≤ 60 from by omega)
  have n1 : True := trivial
  have n2 : True := trivial
  clear hA hB
  go_wp2_with ((first
    | go_big_skip
    | ((with_reducible refine at_bi ?_); (try refine w_yes _ _ _ rfl rfl rfl ?_); refine w_rlen Try.elGac _ rfl rfl rfl (ha.out.ext GacR.stays hX) ?_)
    | ((with_reducible refine at_bi ?_); (try refine w_yes _ _ _ rfl rfl rfl ?_); refine i_len _ rfl rfl rfl (hb.out.ext hX) ?_)
    | (refine w_empt Try.elI rfl rfl ?_; intro ge we hge hx oe; replace oe := hide_ oe; clear hge; (try replace ib := hide_ (ib.out.ext hx)); (try replace hG0 := hide_ (hG0.out.ext hx)); replace hX := hX.trans hx; (try replace hY := hY.trans hx); (try replace hZ := hZ.trans hx); clear hx)
    | (refine w_appE Try.elI _ _ rfl rfl rfl rfl oe.out (ys := i64s bad) (hb.out.ext hX) (i64s_one _) (by rw [i64s_length]; have := hbl.out; omega) ?_; intro vi wf hx on; have ib := hide_ (show Ints wf vi bad from Sl.of_own on); clear on oe; (try replace ib := hide_ (ib.out.ext hx)); (try replace hG0 := hide_ (hG0.out.ext hx)); replace hX := hX.trans hx; (try replace hY := hY.trans hx); (try replace hZ := hZ.trans hx); clear hx)
    | (go_at_call 8; refine (GNew_any ib.out (by have := hbl.out; omega)).mono ?_; rintro e w2 ⟨p, rfl, g1, g2, vgb, G0, hG00, hx, hnew⟩; have hG0 := hide_ hG00; have hGl := hide_ (fun k (hk : G0 k) => (hnew k hk).2); have hgW := hide_ (show ∀ k, gm g1 g2 k → w.heap.size ≤ k from fun k hk => Nat.le_trans hX.size (hnew k (hk.elim (fun e => e ▸ hG00.inG.2.1) fun e => e ▸ hG00.inG.2.2.1)).1); clear hG00 hnew ib; replace hX := hX.trans hx; (try replace hY := hY.trans hx); (try replace hZ := hZ.trans hx); clear hx)
    | ((with_reducible refine at_lit ?_); have _t := n1; refine w_nnew Try.enBk [] rfl rfl rfl (by simp) rfl (by omega) ?_; intro v6 w6 B hB1 hB2 hx m6; have r6 := hide_ (RowB.nil (H := fun _ => False) (RowN.selfown m6)); have q6 := hide_ (fun k hk => Nat.le_trans hB1 (m6.inF k hk).1); have z6 := hide_ (fun k hk => (m6.inF k hk).2); clear n1 _t hB1 hB2 m6; replace hG0 := hide_ (hG0.out.ext hx); have s6 := hide_ hx.size; have hX6 := hide_ hX; replace hX := hX.trans hx; (try replace hY := hY.trans hx); (try replace hZ := hZ.trans hx); clear hx)
    | ((with_reducible refine at_lit ?_); have _t := n2; refine w_nnew Try.enBk [] rfl rfl rfl (by simp) rfl (by omega) ?_; intro v7 w7 B hB1 hB2 hx m7; have r7 := hide_ (RowB.nil (H := fun _ => False) (RowN.selfown m7)); have q7 := hide_ (fun k hk => Nat.le_trans hB1 (m7.inF k hk).1); clear n2 _t hB1 hB2 m7; replace r6 := hide_ (r6.out.ext hx); replace hG0 := hide_ (hG0.out.ext hx); have s7 := hide_ hx.size; replace hX := hX.trans hx; (try replace hY := hY.trans hx); (try replace hZ := hZ.trans hx); clear hx)
    | fail) <;> (try simp only [Act.put, List.setIfInBounds_toArray, List.set_cons_zero, List.set_cons_succ]))
  have hL : Hid (Lw w7 p g1 g2 vgb ⟨bad, [], []⟩ v6 v7 [] []) := hide_ ⟨G0, fun _ => False, hG0.out, fun k hk => by have h1 := hGl.out k hk; have h2 := s6.out; have h3 := s7.out; omega, fun _ h => h.elim, r6.out, r7.out,
    fun k hk => ⟨fun h => by have h1 := hGl.out k h; have h2 := q6.out k hk; omega, id⟩, fun k hk => ⟨fun h => by have h1 := hGl.out k h; have h2 := q7.out k hk; have h3 := s6.out; omega, id⟩, fun k hk e => by have h1 := z6.out k hk; have h2 := q7.out k e; omega⟩
  have hn6 := hide_ (fun k hk => Nat.le_trans hX6.out.size (q6.out k hk))
  have hn7 := hide_ (fun k hk => Nat.le_trans hX6.out.size (Nat.le_trans s6.out (q7.out k hk)))
  clear hG0 hGl r6 r7 q6 q7 z6 s6 s7 hX6 t1 t0
  go_loopw [6, 7, 38] (fun u6 u7 i wr => ∃ (k : Nat) (g : GaD) (S P : List BlkD), i = .int .i64 k ∧ k ≤ acts.length ∧ Hid (Lw wr p g1 g2 vgb g u6 u7 S P) ∧ Hid (OneB g S P ∧ g.bad = bad ∧ g.said.length ≤ k ∧ g.kn.length ≤ k ∧ S.length ≤ k ∧ P.length ≤ k ∧ g.Ok) ∧ Hid (∀ k, u6.ownBlock = some k → w.heap.size ≤ k) ∧ Hid (∀ k, u7.ownBlock = some k → w.heap.size ≤ k) ∧ Ext w wr) (fun _ _ i _ => acts.length - (RowKit.intOf i).toNat)
  case atStart => exact ⟨0, _, [], [], rfl, Nat.zero_le _, hL, hide_ ⟨OneB.start bad, rfl, Nat.le_refl _, Nat.le_refl _, Nat.le_refl _, Nat.le_refl _, ⟨fun _ h => (nomatch h), List.nodup_nil⟩⟩, hn6, hn7, hX⟩
  case round =>
  clear hX hL hn6 hn7
  obtain ⟨k, g, S, P, rfl, hk, hL, hI, hn6, hn7, hX⟩ := hrel
  obtain ⟨v6, hv6⟩ : ∃ v, v = u6 := ⟨_, rfl⟩
  obtain ⟨v7, hv7⟩ : ∃ v, v = u7 := ⟨_, rfl⟩
  rw [← hv6] at hn6
  rw [← hv7] at hn7
  rw [← hv6, ← hv7] at hL
  subst hv6 hv7
  by_cases hge : acts.length ≤ k
  · obtain rfl : k = acts.length := by omega
    have t2 : decide (acts.length < acts.length) = false := by simp
    clear hge
    go_wp2
    go_ret
    exact Keep.intro ⟨rfl, hX⟩
  have hlt : k < acts.length := by omega
  have t2 : decide (k < acts.length) = true := by simpa using hlt
  obtain ⟨d, hd0⟩ : ∃ d, acts[k]? = some d := ⟨_, List.getElem?_eq_getElem hlt⟩
  have hd := hide_ hd0
  have hlt' := hide_ hlt
  have hkb : k ≤ 60 := by have := hal.out; omega
  have hSl := hide_ (show S.length ≤ 60 from by have := hI.out.2.2.2.2.1; omega)
  have hPl := hide_ (show P.length ≤ 60 from by have := hI.out.2.2.2.2.2.1; omega)
  have hfew := hide_ (show g.said.length ≤ 1000 ∧ g.kn.length ≤ 1000 from ⟨by have := hI.out.2.2.1; omega, by have := hI.out.2.2.2.1; omega⟩)
  obtain ⟨rows6, hs60, hl60, hR60⟩ : ∃ rows, SlS wr v6 5 rows ∧ rows.length = S.length ∧ ∀ (k : Nat) (row : List Value) (d : BlkD), rows[k]? = some row → S[k]? = some d → ∃ u, row = bRw d u ∧ Recs 2 TxR wr u d.txs ∧ d.Raw := by obtain ⟨GG, HH, a⟩ := hL.out; exact a.r6.recs
  obtain ⟨rows7, hs70, hl70, hR70⟩ : ∃ rows, SlS wr v7 5 rows ∧ rows.length = P.length ∧ ∀ (k : Nat) (row : List Value) (d : BlkD), rows[k]? = some row → P[k]? = some d → ∃ u, row = bRw d u ∧ Recs 2 TxR wr u d.txs ∧ d.Raw := by obtain ⟨GG, HH, a⟩ := hL.out; exact a.r7.recs
  have hs6 := hide_ hs60
  have hs7 := hide_ hs70
  have hl6 := hide_ hl60
  have hl7 := hide_ hl70
  have hro6 := hide_ (rows_one hl60 hR60)
  have hro7 := hide_ (rows_one hl70 hR70)
  have hTR := hide_ (rows_two hl60 hR60 hl70 hR70)
  obtain ⟨rT, hrT0⟩ : ∃ r, rows6 ++ rows7 = r := ⟨_, rfl⟩
  rw [hrT0] at hTR
  have hrT := hide_ hrT0
  clear hrT0
  have hTR6 := hide_ hR60
  have hY := Ext.refl wr
  obtain ⟨oe0, hoE0⟩ : ∃ oe0, omE (rdMsg d.b) = oe0 := ⟨_, rfl⟩
  obtain ⟨mo, hoM0⟩ : ∃ mo, mOr (rdMsg d.b) = mo := ⟨_, rfl⟩
  have hoE := hide_ hoE0
  have hoM := hide_ hoM0
  have hdO : d.Ok := recs_okG ha.out (fun _ _ _ h => h.2) d (List.mem_of_getElem? hd0)
  have hmp := hide_ (show I64 mo.bk.parent from by
    rw [← hoM0]
    cases hr : rdMsg d.b with
    | none => simp [mOr, MsgD.zero, BlkD.zero, I64]
    | some m => exact (GaD.rd_right hdO.b.1 hr).rawG.2)
  clear hge hlt hd0 hs60 hs70 hl60 hl70 hR60 hR70
  have hways : (rdMsg d.b = some mo ∧ ((oe0 : Nat) : Int) = 0 ∧ mo.kd = 1) ∨ ((∀ m, rdMsg d.b = some m → m.kd ≠ 1) ∧ (((oe0 : Nat) : Int) ≠ 0 ∨ (((oe0 : Nat) : Int) = 0 ∧ mo.kd ≠ 1))) := by
    cases hr : rdMsg d.b with
    | none => exact .inr ⟨fun m h => (nomatch h), .inl (by rw [← hoE0, hr]; simp [omE])⟩
    | some m =>
      have e1 : m = mo := by rw [← hoM0, hr]; rfl
      have e2 : ((oe0 : Nat) : Int) = 0 := by rw [← hoE0, hr]; rfl
      by_cases h : m.kd = 1
      · exact .inl ⟨by rw [e1], e2, e1 ▸ h⟩
      · exact .inr ⟨fun m' h' => by injection h' with h'; subst h'; exact h, .inr ⟨e2, e1 ▸ h⟩⟩
  clear hoE0 hoM0
  rcases hways with ⟨hrm0, hoz, hkd0⟩ | ⟨hrm0, hoz⟩
  · have te : (((oe0 : Nat) : Int) == 0) = true := by simpa using hoz
    have te2 : (oe0 == 0) = true := by simpa using hoz
    have tk : (mo.kd == 1) = true := by simpa using hkd0
    have hrm := hide_ hrm0
    have hkd := hide_ hkd0
    have hmr := hide_ (((GaD.rd_right hdO.b.1 hrm0).bkOk hkd0).rawG hmp.out)
    clear hrm0 hkd0 hoz
    by_cases hk0 : d.k = 0
    · have t3 : (d.k == 0) = true := by simpa using hk0
      clear hk0
      go_wp2_with ((first
        | go_big_skip
        | ((with_reducible refine at_idx ?_); refine w_gacidx Try.elGac _ _ k rfl rfl rfl rfl ha.out hX hd.out ?_; intro pa ud hrow0 hby0 hok0; have hrow := hide_ hrow0; have hby := hide_ hby0; have hok := hide_ hok0; have hud := hide_ hby0.one'; clear hrow0 hby0 hok0)
        | ((with_reducible refine at_load ?_); refine w_pload Try.stGac _ rfl rfl rfl hrow.out rfl ?_; clear hrow)
        | ((with_reducible refine at_alloc ?_); refine w_alloc Try.stGac rfl rfl ?_; intro g9 w23 hg9 hxa f9)
        | ((with_reducible refine at_store ?_); refine w_astore Try.stGac _ _ (us := [.int .i64 d.k, ud]) rfl rfl rfl rfl rfl f9 rfl rfl (by intro y hy; simp at hy; rcases hy with rfl | rfl; rfl; exact hud.out) ?_; intro w24 hm24 f25; have hx := hm24.after hxa (fun i e => e ▸ hg9); clear hm24 hxa hg9 f9; (try replace hL := hide_ (hL.out.ext hx)); (try replace f9 := hide_ (f9.out.ext hx)); (try replace f10 := hide_ (f10.out.ext hx)); (try replace ou := hide_ (ou.out.ext TxR.stays hx)); (try replace hul := hide_ (u_lt hul.out hx)); have f9 := hide_ f25; clear f25; replace hX := hX.trans hx; (try replace hY := hY.trans hx); (try replace hZ := hZ.trans hx); clear hx)
        | ((with_reducible refine at_field ?_); (try refine w_yes _ _ _ rfl rfl rfl ?_); refine w_field Try.stGac _ _ _ rfl rfl rfl (by omega) ?_)
        | ((with_reducible refine at_load ?_); (try refine w_yes _ _ _ rfl rfl rfl ?_); refine w_fload _ rfl rfl rfl f9.out rfl (agg_of (by kernel_rfl)) ?_)
        | (go_at_call 16; refine (refMRead_any hok.out.b.1 (Nat.le_trans hok.out.b.2 (by omega)) (hby.out.ext hX)).mono ?_; rintro e w22 ⟨u10, rfl, hx, ou0⟩; rw [hoM.out] at ou0; rw [hoE.out, hoM.out]; have ou := hide_ ou0.recs; have huw := hide_ ou0.raw; have hul := hide_ (fun k (hk : u10.ownBlock = some k) => ou0.lt hk); have hun := hide_ (hL.out.apart (fun k hk => ou0.new k hk)); clear ou0; replace hL := hide_ (hL.out.ext hx); replace f9 := hide_ (f9.out.ext hx); replace hX := hX.trans hx; (try replace hY := hY.trans hx); (try replace hZ := hZ.trans hx); clear hx)
        | ((with_reducible refine at_alloc ?_); refine w_agalloc Try.agMsg rfl rfl ?_; intro g10 w25 hg10 hxa f10)
        | ((with_reducible refine at_store ?_); refine w_agput Try.agMsg (us := mRow mo u10) _ _ rfl rfl rfl rfl rfl f10 rfl rfl (m_one ou.out.oneC) ?_; intro w26 hm26 f27; have hx := hm26.after hxa (fun i e => e ▸ hg10); clear hm26 f10 hxa hg10; (try replace hL := hide_ (hL.out.ext hx)); (try replace f9 := hide_ (f9.out.ext hx)); (try replace f10 := hide_ (f10.out.ext hx)); (try replace ou := hide_ (ou.out.ext TxR.stays hx)); (try replace hul := hide_ (u_lt hul.out hx)); have f10 := hide_ f27; clear f27; replace hX := hX.trans hx; (try replace hY := hY.trans hx); (try replace hZ := hZ.trans hx); clear hx)
        | ((with_reducible refine at_field ?_); (try refine w_yes _ _ _ rfl rfl rfl ?_); refine w_mfield _ _ _ rfl rfl rfl (by omega) ?_)
        | ((with_reducible refine at_load ?_); (try refine w_yes _ _ _ rfl rfl rfl ?_); refine w_fload _ rfl rfl rfl f10.out rfl (agg_of (by kernel_rfl)) ?_)
        | ((with_reducible refine at_field ?_); (try refine w_yes _ _ _ rfl rfl rfl ?_); refine w_field Try.stGac _ _ _ rfl rfl rfl (by omega) ?_)
        | ((with_reducible refine at_lit ?_); refine w_nnew Try.enBk [] rfl rfl rfl (by simp) rfl (by omega) ?_; intro v58 w58 B hB1 hB2 hxa n58; replace n58 := n58.mono (G := fun k => B ≤ k) (fun k h => h.1); have hs7b := hs7.out.ext hY; have hs6b := (hs6.out.ext hY).ext hxa)
        | ((with_reducible refine at_bi ?_); refine w_napp0 Try.enBk _ _ rfl rfl rfl rfl n58 hs6b hro6.out (by rw [hl6.out]; have := hSl.out; simp; omega) ?_; intro v60 w60 hm60 n60; replace n60 := n60.mono (G := fun k => B ≤ k) (fun k h => h.elim id fun e => Nat.le_trans hB2 e.1); have hB60 := Nat.le_trans hB2 hm60.size; have hxb := hm60.after hxa (fun i e => Nat.le_trans hB1 e); clear n58 hm60 hs6b hxa)
        | ((with_reducible refine at_bi ?_); refine w_napp0 Try.enBk _ _ rfl rfl rfl rfl n60 (hs7b.ext hxb) hro7.out (by rw [List.nil_append, hl6.out, hl7.out]; have := hSl.out; have := hPl.out; omega) ?_; intro v62 w62 hm62 n62; have hx := hm62.after hxb (fun i e => Nat.le_trans hB1 e); have hT := hide_ (show SlS w62 v62 5 rT from by have := n62.slS; rw [List.nil_append, hrT.out] at this; exact this); clear n60 n62 hm62 hB60 hxb hB1 hB2 hs7b; (try replace hL := hide_ (hL.out.ext hx)); (try replace f9 := hide_ (f9.out.ext hx)); (try replace f10 := hide_ (f10.out.ext hx)); (try replace ou := hide_ (ou.out.ext TxR.stays hx)); (try replace hul := hide_ (u_lt hul.out hx)); replace hX := hX.trans hx; (try replace hY := hY.trans hx); (try replace hZ := hZ.trans hx); clear hx)
        | ((with_reducible refine at_bi ?_); refine w_rlen (R := fun _ row d => row = d) (l := rT) Try.enBk.elS _ rfl rfl rfl ⟨_, hT.out, rfl, fun k a b h1 h2 => by rw [h1] at h2; injection h2⟩ ?_)
        | fail) <;> (try simp only [Act.put, List.setIfInBounds_toArray, List.set_cons_zero, List.set_cons_succ]))
      have hZ := Ext.refl w62
      have hTl := hide_ (show rT.length = (S ++ P).length from by rw [← hrT.out, List.length_append, List.length_append, hl6.out, hl7.out])
      have F9 := hide_ f9.out
      have F10 := hide_ f10.out
      have OU := hide_ ou.out
      have LL := hide_ hL.out
      have HUL := hide_ hul.out
      have hX62 := hide_ hX
      have hY62 := hide_ hY
      clear hX hY hZ f9 f10 ou hL hul
      go_loopw [64] (fun i wr2 => ∃ j : Nat, i = .int .i64 j ∧ j ≤ rT.length ∧ Hid (∀ (i : Nat) (d : BlkD), i < j → (S ++ P)[i]? = some d → d.name = mo.bk.name → d = mo.bk) ∧ Ext w62 wr2) (fun i _ => rT.length - (RowKit.intOf i).toNat)
      case atStart => exact ⟨0, rfl, Nat.zero_le _, hide_ (fun i d h => absurd h (by omega)), Ext.refl _⟩
      case round =>
      obtain ⟨j, rfl, hj, hin, hZ⟩ := hrel
      have hX := hX62.out.trans hZ
      have hY := hY62.out.trans hZ
      have f9 := hide_ (F9.out.ext hZ)
      have f10 := hide_ (F10.out.ext hZ)
      have ou := hide_ (OU.out.ext TxR.stays hZ)
      have hL := hide_ (LL.out.ext hZ)
      have hul := hide_ (u_lt HUL.out hZ)
      by_cases hgj : rT.length ≤ j
      rotate_left
      · have hltj : j < rT.length := by omega
        have t8 : decide (j < rT.length) = true := by simpa using hltj
        obtain ⟨b, hb0⟩ : ∃ b, (S ++ P)[j]? = some b := ⟨_, List.getElem?_eq_getElem (by have := hTl.out; omega)⟩
        obtain ⟨u, hru, hub0, hrb0⟩ := hTR.out j _ b (List.getElem?_eq_getElem hltj) hb0
        have hbj := hide_ hb0
        have hrow := hide_ (show rT[j]? = some (bRw b u) from by rw [List.getElem?_eq_getElem hltj, hru])
        have hub := hide_ (hub0.ext TxR.stays hY62.out)
        have hrb := hide_ hrb0
        have h1u := hide_ (blk_one (a := b.slot) (b := b.miner) (c := b.var) (d := b.parent) hub0.oneC)
        have hlj := hide_ hltj
        have hjb : j ≤ 200 := by have h1 := hTl.out; have h2 := hSl.out; have h3 := hPl.out; rw [List.length_append] at h1; omega
        clear hgj hltj hb0 hru hub0 hrb0 F9 F10 OU LL HUL hX62 hY62 hj
        by_cases hnm : b.name = mo.bk.name
        rotate_left
        · have tn : (b.name == mo.bk.name) = false := by simpa using hnm
          have hin2 := hide_ (show ∀ (i : Nat) (d : BlkD), i < j + 1 → (S ++ P)[i]? = some d → d.name = mo.bk.name → d = mo.bk from fun i d h1 h2 h3 => (Nat.lt_succ_iff_lt_or_eq.1 h1).elim (fun h => hin.out i d h h2 h3) fun e => by
            subst e; rw [hbj.out] at h2; injection h2 with h2; subst h2; exact absurd h3 hnm)
          clear hnm
          go_wp2_with ((first
            | go_big_skip
            | (refine w_sidx Try.enBk.elS _ _ j rfl rfl rfl rfl hT.out hZ hrow.out ?_; intro pa hrow1; have hrow := hide_ hrow1; clear hrow1)
            | ((with_reducible refine at_load ?_); refine w_pload Try.stBlk _ rfl rfl rfl hrow.out rfl ?_; clear hrow)
            | ((with_reducible refine at_alloc ?_); refine w_alloc Try.stBlk rfl rfl ?_; intro g14 w70 hg70 hxa f14)
            | ((with_reducible refine at_store ?_); refine w_astore Try.stBlk _ _ (us := bRw b u) rfl rfl rfl rfl rfl f14 rfl rfl h1u.out ?_; intro w71 hm71 f72; have hx := hm71.after hxa (fun i e => e ▸ hg70); clear hm71 hxa hg70 f14; (try replace hL := hide_ (hL.out.ext hx)); (try replace f9 := hide_ (f9.out.ext hx)); (try replace f10 := hide_ (f10.out.ext hx)); (try replace ou := hide_ (ou.out.ext TxR.stays hx)); (try replace hul := hide_ (u_lt hul.out hx)); have f14 := hide_ (show Fs w71 g14 (bRw b u) from f72); clear f72; replace hX := hX.trans hx; (try replace hY := hY.trans hx); (try replace hZ := hZ.trans hx); clear hx)
            | fail) <;> (try simp only [Act.put, List.setIfInBounds_toArray, List.set_cons_zero, List.set_cons_succ]))
          refine wp_region_phx (by kernel_rfl) ?_; intro wd hxd; have F14 := f14.out.ext hxd; have F10 := f10.out.ext hxd
          refine Ph.rest 0 16 (by kernel_rfl) ?_
          refine LinL.step (s := (.val (.bool true))) [(12, none)] rfl (by kernel_rfl) (op_out 12 (.bool true) rfl (.inl rfl) rfl) ?_
          refine LinL.step (s := (.val (.bool true))) [(68, some 0)] rfl (by kernel_rfl) (op_copy 68 0 (.val (.bool true)) rfl (.inl rfl) rfl) ?_
          refine LinL.step (s := (.val (.agg #[.int .i64 b.slot, .int .i64 b.miner, .int .i64 b.var, .int .i64 b.parent, u]))) [(14, none), (69, some 0)] rfl (by kernel_rfl) (op_yes (reads := [(14, none)]) 1 69 0 true rfl rfl rfl (op_runs rfl fun σ w' hx hg => ⟨_, runs_aload (ρ := σ.eval) (w := w') Try.stBlk (.tmp 14) rfl hg.1 (F14.ext hx) rfl, rfl⟩)) ?_
          refine LinL.step (s := (.val (.int .i64 b.name))) [(70, some 0), (69, some 1)] rfl (by kernel_rfl) (op_yes (reads := [(70, some 0)]) 1 69 1 true rfl rfl rfl (op_calls 17 #[(.tmp 70)] #[46] (fun σ => #[.agg #[.int .i64 b.slot, .int .i64 b.miner, .int .i64 b.var, .int .i64 b.parent, u]]) rfl rfl (fun _ _ => rfl) fun σ w' hx hg => ⟨by have h70 : σ.tmps.getD 70 undef = .agg #[.int .i64 b.slot, .int .i64 b.miner, .int .i64 b.var, .int .i64 b.parent, u] := hg.1; simp only [List.map_toArray, List.map_cons, List.map_nil, Act.eval, h70], refnameR (b := b) (hub.out.ext TxR.stays (hZ.trans (hxd.trans hx))) hrb.out.parent⟩)) ?_
          refine LinL.step (s := (.val (.pointer (some ⟨g10, 8, none⟩)))) [(10, none), (69, some 2)] rfl (by kernel_rfl) (op_yes (reads := [(10, none)]) 1 69 2 true rfl rfl rfl (op_runs rfl fun σ w' hx hg => ⟨_, runs_mfield (ρ := σ.eval) (w := w') (.tmp 10) g10 7 rfl hg.1 (by omega), rfl⟩)) ?_
          refine LinL.step (s := (.val (.agg (bRw mo.bk u10).toArray))) [(72, some 0), (69, some 3)] rfl (by kernel_rfl) (op_yes (reads := [(72, some 0)]) 1 69 3 true rfl rfl rfl (op_runs rfl fun σ w' hx hg => ⟨_, runs_loadN (ρ := σ.eval) (w := w') (us := bRw mo.bk u10) Try.stBlkM (.tmp 72) rfl hg.1 (F10.ext hx) rfl (mbk_at mo u10), rfl⟩)) ?_
          refine LinL.step (s := (.val (.int .i64 mo.bk.name))) [(73, some 0), (69, some 4)] rfl (by kernel_rfl) (op_yes (reads := [(73, some 0)]) 1 69 4 true rfl rfl rfl (op_calls 17 #[(.tmp 73)] #[46] (fun σ => #[.agg (bRw mo.bk u10).toArray]) rfl rfl (fun _ _ => rfl) fun σ w' hx hg => ⟨by have h73 : σ.tmps.getD 73 undef = .agg (bRw mo.bk u10).toArray := hg.1; simp only [List.map_toArray, List.map_cons, List.map_nil, Act.eval, h73], refnameR (b := mo.bk) (ou.out.ext TxR.stays (hxd.trans hx)) hmp.out⟩)) ?_
          refine LinL.step (s := (.val (.bool false))) [(71, some 3), (74, some 0), (69, some 5)] rfl (by kernel_rfl) (op_yes (reads := [(71, some 3), (74, some 0)]) 1 69 5 true rfl rfl rfl (op_runs rfl fun σ w' hx hg => ⟨(.bool false), by have h71 : σ.tmps.getD 71 undef = .int .i64 b.name := hg.1; have h74 : σ.tmps.getD 74 undef = .int .i64 mo.bk.name := hg.2.1; unfold Runs execOp; simp [Act.eval, h71, h74, go_sem, tn], rfl⟩)) ?_
          refine LinL.step (s := (.val (.bool false))) [(69, some 6), (75, some 0)] rfl (by kernel_rfl) (op_runs rfl fun σ w' hx hg => ⟨_, runs_pick_t (ρ := σ.eval) (w := w') (.tmp 69) (.tmp 75) (.const (.bool false)) rfl hg.1 hg.2.1, rfl⟩) ?_
          refine LinL.step (s := (.val (.bool false))) [(76, some 0)] rfl (by kernel_rfl) (op_copy 76 0 (.val (.bool false)) rfl (.inl rfl) rfl) ?_
          refine LinL.step (s := .val undef) [(14, none), (77, some 0)] rfl (by kernel_rfl) (op_no (reads := [(14, none)]) 9 77 0 true rfl rfl rfl) ?_
          refine LinL.step (s := .val undef) [(10, none), (77, some 1)] rfl (by kernel_rfl) (op_no (reads := [(10, none)]) 9 77 1 true rfl rfl rfl) ?_
          refine LinL.step (s := .val undef) [(79, some 0), (77, some 2)] rfl (by kernel_rfl) (op_no (reads := [(79, some 0)]) 9 77 2 true rfl rfl rfl) ?_
          refine LinL.step (s := .val undef) [(78, some 2), (80, some 0), (77, some 3)] rfl (by kernel_rfl) (op_no (reads := [(78, some 2), (80, some 0)]) 9 77 3 true rfl rfl rfl) ?_
          refine LinL.step (s := .val undef) [(81, some 0), (77, some 4)] rfl (by kernel_rfl) (op_no (reads := [(81, some 0)]) 9 77 4 true rfl rfl rfl) ?_
          refine LinL.step (s := (.val (.bool false))) [(77, some 5), (82, some 0)] rfl (by kernel_rfl) (op_runs rfl fun σ w' hx hg => ⟨_, runs_pick_f (ρ := σ.eval) (w := w') (.tmp 77) (.tmp 82) (.const (.bool false)) rfl hg.1 rfl, rfl⟩) ?_
          intro wN hxN
          simp only [Fin', List.reverse_cons, List.reverse_nil, List.nil_append, List.cons_append, List.drop_zero, List.take_succ_cons, List.take_zero]
          simp only [Act.put, List.setIfInBounds_toArray, List.set_cons_zero, List.set_cons_succ]
          have hx := hxd.trans hxN
          (try replace hL := hide_ (hL.out.ext hx)); (try replace f9 := hide_ (f9.out.ext hx)); (try replace f10 := hide_ (f10.out.ext hx)); (try replace ou := hide_ (ou.out.ext TxR.stays hx)); (try replace hul := hide_ (u_lt hul.out hx))
          replace hX := hX.trans hx; (try replace hY := hY.trans hx); (try replace hZ := hZ.trans hx); clear hx
          clear hxd hxN F14 F10
          go_wp2
          go_roundw
          case rel => exact ⟨j + 1, by go_num, hlj.out, hin2, hZ⟩
          case measure => have := hlj.out; simp [RowKit.intOf]; omega
        have tn : (b.name == mo.bk.name) = true := by simpa using hnm
        by_cases hsm : b = mo.bk
        · have hqs := hide_ (decide_eq_true hsm)
          have hin2 := hide_ (show ∀ (i : Nat) (d : BlkD), i < j + 1 → (S ++ P)[i]? = some d → d.name = mo.bk.name → d = mo.bk from fun i d h1 h2 h3 => (Nat.lt_succ_iff_lt_or_eq.1 h1).elim (fun h => hin.out i d h h2 h3) fun e => by
            subst e; rw [hbj.out] at h2; injection h2 with h2; subst h2; exact hsm)
          clear hnm hsm
          go_wp2_with ((first
            | go_big_skip
            | (refine w_sidx Try.enBk.elS _ _ j rfl rfl rfl rfl hT.out hZ hrow.out ?_; intro pa hrow1; have hrow := hide_ hrow1; clear hrow1)
            | ((with_reducible refine at_load ?_); refine w_pload Try.stBlk _ rfl rfl rfl hrow.out rfl ?_; clear hrow)
            | ((with_reducible refine at_alloc ?_); refine w_alloc Try.stBlk rfl rfl ?_; intro g14 w70 hg70 hxa f14)
            | ((with_reducible refine at_store ?_); refine w_astore Try.stBlk _ _ (us := bRw b u) rfl rfl rfl rfl rfl f14 rfl rfl h1u.out ?_; intro w71 hm71 f72; have hx := hm71.after hxa (fun i e => e ▸ hg70); clear hm71 hxa hg70 f14; (try replace hL := hide_ (hL.out.ext hx)); (try replace f9 := hide_ (f9.out.ext hx)); (try replace f10 := hide_ (f10.out.ext hx)); (try replace ou := hide_ (ou.out.ext TxR.stays hx)); (try replace hul := hide_ (u_lt hul.out hx)); have f14 := hide_ (show Fs w71 g14 (bRw b u) from f72); clear f72; replace hX := hX.trans hx; (try replace hY := hY.trans hx); (try replace hZ := hZ.trans hx); clear hx)
            | fail) <;> (try simp only [Act.put, List.setIfInBounds_toArray, List.set_cons_zero, List.set_cons_succ]))
          refine wp_region_phx (by kernel_rfl) ?_; intro wd hxd; have F14 := f14.out.ext hxd; have F10 := f10.out.ext hxd
          refine Ph.rest 0 16 (by kernel_rfl) ?_
          refine LinL.step (s := (.val (.bool true))) [(12, none)] rfl (by kernel_rfl) (op_out 12 (.bool true) rfl (.inl rfl) rfl) ?_
          refine LinL.step (s := (.val (.bool true))) [(68, some 0)] rfl (by kernel_rfl) (op_copy 68 0 (.val (.bool true)) rfl (.inl rfl) rfl) ?_
          refine LinL.step (s := (.val (.agg #[.int .i64 b.slot, .int .i64 b.miner, .int .i64 b.var, .int .i64 b.parent, u]))) [(14, none), (69, some 0)] rfl (by kernel_rfl) (op_yes (reads := [(14, none)]) 1 69 0 true rfl rfl rfl (op_runs rfl fun σ w' hx hg => ⟨_, runs_aload (ρ := σ.eval) (w := w') Try.stBlk (.tmp 14) rfl hg.1 (F14.ext hx) rfl, rfl⟩)) ?_
          refine LinL.step (s := (.val (.int .i64 b.name))) [(70, some 0), (69, some 1)] rfl (by kernel_rfl) (op_yes (reads := [(70, some 0)]) 1 69 1 true rfl rfl rfl (op_calls 17 #[(.tmp 70)] #[46] (fun σ => #[.agg #[.int .i64 b.slot, .int .i64 b.miner, .int .i64 b.var, .int .i64 b.parent, u]]) rfl rfl (fun _ _ => rfl) fun σ w' hx hg => ⟨by have h70 : σ.tmps.getD 70 undef = .agg #[.int .i64 b.slot, .int .i64 b.miner, .int .i64 b.var, .int .i64 b.parent, u] := hg.1; simp only [List.map_toArray, List.map_cons, List.map_nil, Act.eval, h70], refnameR (b := b) (hub.out.ext TxR.stays (hZ.trans (hxd.trans hx))) hrb.out.parent⟩)) ?_
          refine LinL.step (s := (.val (.pointer (some ⟨g10, 8, none⟩)))) [(10, none), (69, some 2)] rfl (by kernel_rfl) (op_yes (reads := [(10, none)]) 1 69 2 true rfl rfl rfl (op_runs rfl fun σ w' hx hg => ⟨_, runs_mfield (ρ := σ.eval) (w := w') (.tmp 10) g10 7 rfl hg.1 (by omega), rfl⟩)) ?_
          refine LinL.step (s := (.val (.agg (bRw mo.bk u10).toArray))) [(72, some 0), (69, some 3)] rfl (by kernel_rfl) (op_yes (reads := [(72, some 0)]) 1 69 3 true rfl rfl rfl (op_runs rfl fun σ w' hx hg => ⟨_, runs_loadN (ρ := σ.eval) (w := w') (us := bRw mo.bk u10) Try.stBlkM (.tmp 72) rfl hg.1 (F10.ext hx) rfl (mbk_at mo u10), rfl⟩)) ?_
          refine LinL.step (s := (.val (.int .i64 mo.bk.name))) [(73, some 0), (69, some 4)] rfl (by kernel_rfl) (op_yes (reads := [(73, some 0)]) 1 69 4 true rfl rfl rfl (op_calls 17 #[(.tmp 73)] #[46] (fun σ => #[.agg (bRw mo.bk u10).toArray]) rfl rfl (fun _ _ => rfl) fun σ w' hx hg => ⟨by have h73 : σ.tmps.getD 73 undef = .agg (bRw mo.bk u10).toArray := hg.1; simp only [List.map_toArray, List.map_cons, List.map_nil, Act.eval, h73], refnameR (b := mo.bk) (ou.out.ext TxR.stays (hxd.trans hx)) hmp.out⟩)) ?_
          refine LinL.step (s := (.val (.bool true))) [(71, some 3), (74, some 0), (69, some 5)] rfl (by kernel_rfl) (op_yes (reads := [(71, some 3), (74, some 0)]) 1 69 5 true rfl rfl rfl (op_runs rfl fun σ w' hx hg => ⟨(.bool true), by have h71 : σ.tmps.getD 71 undef = .int .i64 b.name := hg.1; have h74 : σ.tmps.getD 74 undef = .int .i64 mo.bk.name := hg.2.1; unfold Runs execOp; simp [Act.eval, h71, h74, go_sem, tn], rfl⟩)) ?_
          refine LinL.step (s := (.val (.bool true))) [(69, some 6), (75, some 0)] rfl (by kernel_rfl) (op_runs rfl fun σ w' hx hg => ⟨_, runs_pick_t (ρ := σ.eval) (w := w') (.tmp 69) (.tmp 75) (.const (.bool false)) rfl hg.1 hg.2.1, rfl⟩) ?_
          refine LinL.step (s := (.val (.bool true))) [(76, some 0)] rfl (by kernel_rfl) (op_copy 76 0 (.val (.bool true)) rfl (.inl rfl) rfl) ?_
          refine LinL.step (s := (.val (.agg #[.int .i64 b.slot, .int .i64 b.miner, .int .i64 b.var, .int .i64 b.parent, u]))) [(14, none), (77, some 0)] rfl (by kernel_rfl) (op_yes (reads := [(14, none)]) 9 77 0 true rfl rfl rfl (op_runs rfl fun σ w' hx hg => ⟨_, runs_aload (ρ := σ.eval) (w := w') Try.stBlk (.tmp 14) rfl hg.1 (F14.ext hx) rfl, rfl⟩)) ?_
          refine LinL.step (s := (.val (.pointer (some ⟨g10, 8, none⟩)))) [(10, none), (77, some 1)] rfl (by kernel_rfl) (op_yes (reads := [(10, none)]) 9 77 1 true rfl rfl rfl (op_runs rfl fun σ w' hx hg => ⟨_, runs_mfield (ρ := σ.eval) (w := w') (.tmp 10) g10 7 rfl hg.1 (by omega), rfl⟩)) ?_
          refine LinL.step (s := (.val (.agg (bRw mo.bk u10).toArray))) [(79, some 0), (77, some 2)] rfl (by kernel_rfl) (op_yes (reads := [(79, some 0)]) 9 77 2 true rfl rfl rfl (op_runs rfl fun σ w' hx hg => ⟨_, runs_loadN (ρ := σ.eval) (w := w') (us := bRw mo.bk u10) Try.stBlkM (.tmp 79) rfl hg.1 (F10.ext hx) rfl (mbk_at mo u10), rfl⟩)) ?_
          refine LinL.step (s := (.val (.bool true))) [(78, some 2), (80, some 0), (77, some 3)] rfl (by kernel_rfl) (op_yes (reads := [(78, some 2), (80, some 0)]) 9 77 3 true rfl rfl rfl (op_calls 18 #[(.tmp 78), (.tmp 80)] #[46, 46] (fun σ => #[.agg #[.int .i64 b.slot, .int .i64 b.miner, .int .i64 b.var, .int .i64 b.parent, u], .agg (bRw mo.bk u10).toArray]) rfl rfl (fun _ _ => rfl) fun σ w' hx hg => ⟨by have h78 : σ.tmps.getD 78 undef = .agg #[.int .i64 b.slot, .int .i64 b.miner, .int .i64 b.var, .int .i64 b.parent, u] := hg.1; have h80 : σ.tmps.getD 80 undef = .agg (bRw mo.bk u10).toArray := hg.2.1; simp only [List.map_toArray, List.map_cons, List.map_nil, Act.eval, h78, h80], bsameRG (b := b) (b2 := mo.bk) (hub.out.ext TxR.stays (hZ.trans (hxd.trans hx))) (ou.out.ext TxR.stays (hxd.trans hx)) hqs.out⟩)) ?_
          refine LinL.step (s := (.val (.bool false))) [(81, some 0), (77, some 4)] rfl (by kernel_rfl) (op_yes (reads := [(81, some 0)]) 9 77 4 true rfl rfl rfl (op_runs rfl fun σ w' hx hg => ⟨(.bool false), by have h81 : σ.tmps.getD 81 undef = .bool true := hg.1; unfold Runs execOp; simp [Act.eval, h81, go_sem], rfl⟩)) ?_
          refine LinL.step (s := (.val (.bool false))) [(77, some 5), (82, some 0)] rfl (by kernel_rfl) (op_runs rfl fun σ w' hx hg => ⟨_, runs_pick_t (ρ := σ.eval) (w := w') (.tmp 77) (.tmp 82) (.const (.bool false)) rfl hg.1 hg.2.1, rfl⟩) ?_
          intro wN hxN
          simp only [Fin', List.reverse_cons, List.reverse_nil, List.nil_append, List.cons_append, List.drop_zero, List.take_succ_cons, List.take_zero]
          simp only [Act.put, List.setIfInBounds_toArray, List.set_cons_zero, List.set_cons_succ]
          have hx := hxd.trans hxN
          (try replace hL := hide_ (hL.out.ext hx)); (try replace f9 := hide_ (f9.out.ext hx)); (try replace f10 := hide_ (f10.out.ext hx)); (try replace ou := hide_ (ou.out.ext TxR.stays hx)); (try replace hul := hide_ (u_lt hul.out hx))
          replace hX := hX.trans hx; (try replace hY := hY.trans hx); (try replace hZ := hZ.trans hx); clear hx
          clear hxd hxN F14 F10
          go_wp2
          go_roundw
          case rel => exact ⟨j + 1, by go_num, hlj.out, hin2, hZ⟩
          case measure => have := hlj.out; simp [RowKit.intOf]; omega
        · have hqs := hide_ (decide_eq_false hsm)
          clear hnm hsm
          go_wp2_with ((first
            | go_big_skip
            | (refine w_sidx Try.enBk.elS _ _ j rfl rfl rfl rfl hT.out hZ hrow.out ?_; intro pa hrow1; have hrow := hide_ hrow1; clear hrow1)
            | ((with_reducible refine at_load ?_); refine w_pload Try.stBlk _ rfl rfl rfl hrow.out rfl ?_; clear hrow)
            | ((with_reducible refine at_alloc ?_); refine w_alloc Try.stBlk rfl rfl ?_; intro g14 w70 hg70 hxa f14)
            | ((with_reducible refine at_store ?_); refine w_astore Try.stBlk _ _ (us := bRw b u) rfl rfl rfl rfl rfl f14 rfl rfl h1u.out ?_; intro w71 hm71 f72; have hx := hm71.after hxa (fun i e => e ▸ hg70); clear hm71 hxa hg70 f14; (try replace hL := hide_ (hL.out.ext hx)); (try replace f9 := hide_ (f9.out.ext hx)); (try replace f10 := hide_ (f10.out.ext hx)); (try replace ou := hide_ (ou.out.ext TxR.stays hx)); (try replace hul := hide_ (u_lt hul.out hx)); have f14 := hide_ (show Fs w71 g14 (bRw b u) from f72); clear f72; replace hX := hX.trans hx; (try replace hY := hY.trans hx); (try replace hZ := hZ.trans hx); clear hx)
            | fail) <;> (try simp only [Act.put, List.setIfInBounds_toArray, List.set_cons_zero, List.set_cons_succ]))
          refine wp_region_phx (by kernel_rfl) ?_; intro wd hxd; have F14 := f14.out.ext hxd; have F10 := f10.out.ext hxd
          refine Ph.rest 0 16 (by kernel_rfl) ?_
          refine LinL.step (s := (.val (.bool true))) [(12, none)] rfl (by kernel_rfl) (op_out 12 (.bool true) rfl (.inl rfl) rfl) ?_
          refine LinL.step (s := (.val (.bool true))) [(68, some 0)] rfl (by kernel_rfl) (op_copy 68 0 (.val (.bool true)) rfl (.inl rfl) rfl) ?_
          refine LinL.step (s := (.val (.agg #[.int .i64 b.slot, .int .i64 b.miner, .int .i64 b.var, .int .i64 b.parent, u]))) [(14, none), (69, some 0)] rfl (by kernel_rfl) (op_yes (reads := [(14, none)]) 1 69 0 true rfl rfl rfl (op_runs rfl fun σ w' hx hg => ⟨_, runs_aload (ρ := σ.eval) (w := w') Try.stBlk (.tmp 14) rfl hg.1 (F14.ext hx) rfl, rfl⟩)) ?_
          refine LinL.step (s := (.val (.int .i64 b.name))) [(70, some 0), (69, some 1)] rfl (by kernel_rfl) (op_yes (reads := [(70, some 0)]) 1 69 1 true rfl rfl rfl (op_calls 17 #[(.tmp 70)] #[46] (fun σ => #[.agg #[.int .i64 b.slot, .int .i64 b.miner, .int .i64 b.var, .int .i64 b.parent, u]]) rfl rfl (fun _ _ => rfl) fun σ w' hx hg => ⟨by have h70 : σ.tmps.getD 70 undef = .agg #[.int .i64 b.slot, .int .i64 b.miner, .int .i64 b.var, .int .i64 b.parent, u] := hg.1; simp only [List.map_toArray, List.map_cons, List.map_nil, Act.eval, h70], refnameR (b := b) (hub.out.ext TxR.stays (hZ.trans (hxd.trans hx))) hrb.out.parent⟩)) ?_
          refine LinL.step (s := (.val (.pointer (some ⟨g10, 8, none⟩)))) [(10, none), (69, some 2)] rfl (by kernel_rfl) (op_yes (reads := [(10, none)]) 1 69 2 true rfl rfl rfl (op_runs rfl fun σ w' hx hg => ⟨_, runs_mfield (ρ := σ.eval) (w := w') (.tmp 10) g10 7 rfl hg.1 (by omega), rfl⟩)) ?_
          refine LinL.step (s := (.val (.agg (bRw mo.bk u10).toArray))) [(72, some 0), (69, some 3)] rfl (by kernel_rfl) (op_yes (reads := [(72, some 0)]) 1 69 3 true rfl rfl rfl (op_runs rfl fun σ w' hx hg => ⟨_, runs_loadN (ρ := σ.eval) (w := w') (us := bRw mo.bk u10) Try.stBlkM (.tmp 72) rfl hg.1 (F10.ext hx) rfl (mbk_at mo u10), rfl⟩)) ?_
          refine LinL.step (s := (.val (.int .i64 mo.bk.name))) [(73, some 0), (69, some 4)] rfl (by kernel_rfl) (op_yes (reads := [(73, some 0)]) 1 69 4 true rfl rfl rfl (op_calls 17 #[(.tmp 73)] #[46] (fun σ => #[.agg (bRw mo.bk u10).toArray]) rfl rfl (fun _ _ => rfl) fun σ w' hx hg => ⟨by have h73 : σ.tmps.getD 73 undef = .agg (bRw mo.bk u10).toArray := hg.1; simp only [List.map_toArray, List.map_cons, List.map_nil, Act.eval, h73], refnameR (b := mo.bk) (ou.out.ext TxR.stays (hxd.trans hx)) hmp.out⟩)) ?_
          refine LinL.step (s := (.val (.bool true))) [(71, some 3), (74, some 0), (69, some 5)] rfl (by kernel_rfl) (op_yes (reads := [(71, some 3), (74, some 0)]) 1 69 5 true rfl rfl rfl (op_runs rfl fun σ w' hx hg => ⟨(.bool true), by have h71 : σ.tmps.getD 71 undef = .int .i64 b.name := hg.1; have h74 : σ.tmps.getD 74 undef = .int .i64 mo.bk.name := hg.2.1; unfold Runs execOp; simp [Act.eval, h71, h74, go_sem, tn], rfl⟩)) ?_
          refine LinL.step (s := (.val (.bool true))) [(69, some 6), (75, some 0)] rfl (by kernel_rfl) (op_runs rfl fun σ w' hx hg => ⟨_, runs_pick_t (ρ := σ.eval) (w := w') (.tmp 69) (.tmp 75) (.const (.bool false)) rfl hg.1 hg.2.1, rfl⟩) ?_
          refine LinL.step (s := (.val (.bool true))) [(76, some 0)] rfl (by kernel_rfl) (op_copy 76 0 (.val (.bool true)) rfl (.inl rfl) rfl) ?_
          refine LinL.step (s := (.val (.agg #[.int .i64 b.slot, .int .i64 b.miner, .int .i64 b.var, .int .i64 b.parent, u]))) [(14, none), (77, some 0)] rfl (by kernel_rfl) (op_yes (reads := [(14, none)]) 9 77 0 true rfl rfl rfl (op_runs rfl fun σ w' hx hg => ⟨_, runs_aload (ρ := σ.eval) (w := w') Try.stBlk (.tmp 14) rfl hg.1 (F14.ext hx) rfl, rfl⟩)) ?_
          refine LinL.step (s := (.val (.pointer (some ⟨g10, 8, none⟩)))) [(10, none), (77, some 1)] rfl (by kernel_rfl) (op_yes (reads := [(10, none)]) 9 77 1 true rfl rfl rfl (op_runs rfl fun σ w' hx hg => ⟨_, runs_mfield (ρ := σ.eval) (w := w') (.tmp 10) g10 7 rfl hg.1 (by omega), rfl⟩)) ?_
          refine LinL.step (s := (.val (.agg (bRw mo.bk u10).toArray))) [(79, some 0), (77, some 2)] rfl (by kernel_rfl) (op_yes (reads := [(79, some 0)]) 9 77 2 true rfl rfl rfl (op_runs rfl fun σ w' hx hg => ⟨_, runs_loadN (ρ := σ.eval) (w := w') (us := bRw mo.bk u10) Try.stBlkM (.tmp 79) rfl hg.1 (F10.ext hx) rfl (mbk_at mo u10), rfl⟩)) ?_
          refine LinL.step (s := (.val (.bool false))) [(78, some 2), (80, some 0), (77, some 3)] rfl (by kernel_rfl) (op_yes (reads := [(78, some 2), (80, some 0)]) 9 77 3 true rfl rfl rfl (op_calls 18 #[(.tmp 78), (.tmp 80)] #[46, 46] (fun σ => #[.agg #[.int .i64 b.slot, .int .i64 b.miner, .int .i64 b.var, .int .i64 b.parent, u], .agg (bRw mo.bk u10).toArray]) rfl rfl (fun _ _ => rfl) fun σ w' hx hg => ⟨by have h78 : σ.tmps.getD 78 undef = .agg #[.int .i64 b.slot, .int .i64 b.miner, .int .i64 b.var, .int .i64 b.parent, u] := hg.1; have h80 : σ.tmps.getD 80 undef = .agg (bRw mo.bk u10).toArray := hg.2.1; simp only [List.map_toArray, List.map_cons, List.map_nil, Act.eval, h78, h80], bsameRG (b := b) (b2 := mo.bk) (hub.out.ext TxR.stays (hZ.trans (hxd.trans hx))) (ou.out.ext TxR.stays (hxd.trans hx)) hqs.out⟩)) ?_
          refine LinL.step (s := (.val (.bool true))) [(81, some 0), (77, some 4)] rfl (by kernel_rfl) (op_yes (reads := [(81, some 0)]) 9 77 4 true rfl rfl rfl (op_runs rfl fun σ w' hx hg => ⟨(.bool true), by have h81 : σ.tmps.getD 81 undef = .bool false := hg.1; unfold Runs execOp; simp [Act.eval, h81, go_sem], rfl⟩)) ?_
          refine LinL.step (s := (.val (.bool true))) [(77, some 5), (82, some 0)] rfl (by kernel_rfl) (op_runs rfl fun σ w' hx hg => ⟨_, runs_pick_t (ρ := σ.eval) (w := w') (.tmp 77) (.tmp 82) (.const (.bool false)) rfl hg.1 hg.2.1, rfl⟩) ?_
          intro wN hxN
          simp only [Fin', List.reverse_cons, List.reverse_nil, List.nil_append, List.cons_append, List.drop_zero, List.take_succ_cons, List.take_zero]
          simp only [Act.put, List.setIfInBounds_toArray, List.set_cons_zero, List.set_cons_succ]
          have hx := hxd.trans hxN
          (try replace hL := hide_ (hL.out.ext hx)); (try replace f9 := hide_ (f9.out.ext hx)); (try replace f10 := hide_ (f10.out.ext hx)); (try replace ou := hide_ (ou.out.ext TxR.stays hx)); (try replace hul := hide_ (u_lt hul.out hx))
          replace hX := hX.trans hx; (try replace hY := hY.trans hx); (try replace hZ := hZ.trans hx); clear hx
          clear hxd hxN F14 F10
          go_wp2
          go_ret
          exact Keep.intro ⟨rfl, hX⟩
      obtain rfl : j = rT.length := by omega
      have t8 : decide (rT.length < rT.length) = false := by simp
      clear hgj F9 F10 OU LL HUL hX62 hY62 hj
      have hTall : ∀ b ∈ S ++ P, b.name = mo.bk.name → b = mo.bk := fun b hb hn => by
        obtain ⟨i, hi, rfl⟩ := List.getElem_of_mem hb
        exact hin.out i _ (by rw [hTl.out]; exact hi) (List.getElem?_eq_getElem hi) hn
      have hO := hide_ (OneB.say hI.out.1 hrm.out hkd.out hTall)
      clear hTall
      have hG2 := hide_ (GaD.say_bad (g := g) (x := d.b))
      have c1 : True := trivial
      have d1 : True := trivial
      have hOk := hide_ (hI.out.2.2.2.2.2.2.say (x := d.b) hok.out.b.1)
      clear hs6 hs7 hl6 hl7 hro6 hro7 hTR hTR6 hT hTl hin hZ
      go_wp2_with ((first
        | go_big_skip
        | (have _t := c1; (try refine w_yes _ _ _ rfl rfl rfl ?_); refine w_empt Try.elB rfl rfl ?_; intro ge we hge hx oe; replace oe := hide_ oe; clear c1 _t hge; (try replace hL := hide_ (hL.out.ext hx)); (try replace f9 := hide_ (f9.out.ext hx)); (try replace f10 := hide_ (f10.out.ext hx)); (try replace ou := hide_ (ou.out.ext TxR.stays hx)); (try replace hul := hide_ (u_lt hul.out hx)); replace hX := hX.trans hx; (try replace hY := hY.trans hx); (try replace hZ := hZ.trans hx); clear hx)
        | (have _t := d1; (try refine w_yes _ _ _ rfl rfl rfl ?_); refine w_appE Try.elB _ _ rfl rfl rfl rfl oe.out (ys := u8s d.b) (hby.out.ext hX) (u8s_one _) (by rw [u8s_length]; have := hok.out.b.2; omega) ?_; intro v89 wf hx on; have v89b := hide_ (show Byt wf v89 d.b from Sl.of_own on); clear d1 _t on oe; (try replace hL := hide_ (hL.out.ext hx)); (try replace f9 := hide_ (f9.out.ext hx)); (try replace f10 := hide_ (f10.out.ext hx)); (try replace ou := hide_ (ou.out.ext TxR.stays hx)); (try replace hul := hide_ (u_lt hul.out hx)); replace hX := hX.trans hx; (try replace hY := hY.trans hx); (try replace hZ := hZ.trans hx); clear hx)
        | (go_at_call 12; refine (Lw.say hL.out hok.out.b.1 (Nat.le_trans hok.out.b.2 (by omega)) v89b.out hfew.out).mono ?_; rintro e w80 ⟨rfl, hL', hN⟩; clear v89b; have hM := hL.out.maps; replace f9 := hide_ (f9.out.mapmod hN hM); replace f10 := hide_ (f10.out.mapmod hN hM); replace ou := hide_ (recsT_mapmod ou.out hN hM); replace hul := hide_ (fun k hk => Nat.lt_of_lt_of_le (hul.out k hk) hN.size); replace hX := hN.after hX hgW.out; replace hL := hide_ hL'; clear hL' hN hM hY)
        | ((with_reducible refine at_field ?_); (try refine w_yes _ _ _ rfl rfl rfl ?_); refine w_mfield _ _ _ rfl rfl rfl (by omega) ?_)
        | ((with_reducible refine at_load ?_); (try refine w_yes _ _ _ rfl rfl rfl ?_); refine w_fload _ rfl rfl rfl f9.out rfl (agg_of (by kernel_rfl)) ?_)
        | ((with_reducible refine at_field ?_); (try refine w_yes _ _ _ rfl rfl rfl ?_); refine w_field Try.stGac _ _ _ rfl rfl rfl (by omega) ?_)
        | ((with_reducible refine at_load ?_); (try refine w_yes _ _ _ rfl rfl rfl ?_); refine w_loadN Try.stBlkM _ (bRw mo.bk u10) rfl rfl rfl f10.out rfl (mbk_at mo u10) ?_)
        | ((with_reducible refine at_lit ?_); refine w_nnew Try.enBk [bRw mo.bk u10] rfl rfl rfl (by simp [bRw]) rfl (by omega) ?_; intro v95 w95 B95 hB1 hB2 hx n95; have hs95 := hide_ n95.slS; clear hB1 hB2 n95; (try replace hL := hide_ (hL.out.ext hx)); (try replace f9 := hide_ (f9.out.ext hx)); (try replace f10 := hide_ (f10.out.ext hx)); (try replace ou := hide_ (ou.out.ext TxR.stays hx)); (try replace hul := hide_ (u_lt hul.out hx)); replace hX := hX.trans hx; (try replace hY := hY.trans hx); (try replace hZ := hZ.trans hx); clear hx)
        | ((with_reducible refine at_bi ?_); obtain ⟨GG, HH, hS9⟩ := hL.out; obtain ⟨rowsA, hrA, hlA, hRA⟩ := hS9.r6; refine w_napp Try.enBk _ _ rfl rfl rfl rfl hrA hs95.out (by simp) (by intro y hy; rw [List.mem_singleton] at hy; subst hy; exact blk_one ou.out.oneC) (by rw [hlA]; have := hSl.out; simp; omega) ?_; intro v96 w96 hm96 n96; have hLn := hide_ (LwS.app6 hS9 hrA hlA hRA hm96 n96 ou.out hmr.out hul.out (fun k hk => (hun.out k hk).1) (fun k hk => (hun.out k hk).2)); have hXn := hide_ (hm96.after hX (fun i e => hn6.out i e)); have hnn := hide_ (fun k hk => (n96.inF k hk).elim (fun e => hn6.out k e) fun e => Nat.le_trans hX.size e.1); clear hS9 hrA hlA hRA hm96 n96 hs95)
        | fail) <;> (try simp only [Act.put, List.setIfInBounds_toArray, List.set_cons_zero, List.set_cons_succ]))
      go_roundw
      case rel => exact ⟨k + 1, g.say d.b, S ++ [mo.bk], P, by go_num, hlt'.out, hLn, hide_ ⟨hO.out, hG2.1.trans hI.out.2.1, by rw [hG2.2.1]; have := hI.out.2.2.1; simp; omega, by have := hG2.2.2; have := hI.out.2.2.2.1; omega, by have := hI.out.2.2.2.2.1; simp; omega, by have := hI.out.2.2.2.2.2.1; omega, hOk.out⟩, hnn, hn7, hXn.out⟩
      case measure => have := hlt'.out; simp [RowKit.intOf]; omega
    · have t3 : (d.k == 0) = false := by simpa using hk0
      clear hk0
      obtain ⟨⟨gn, q⟩, hps0⟩ : ∃ r, g.pass d.b = r := ⟨_, rfl⟩
      have c1 : True := trivial
      have d1 : True := trivial
      cases q
      · have e : g = gn := by have := OneB.pass_no (g := g) (x := d.b) (.inl (by rw [hps0])); rw [hps0] at this; exact this.symm
        subst e
        have hps := hide_ hps0
        clear hs6 hs7 hl6 hl7 hro6 hro7 hTR hTR6 hrT
        clear hps0
        go_wp2_with ((first
          | go_big_skip
          | ((with_reducible refine at_idx ?_); refine w_gacidx Try.elGac _ _ k rfl rfl rfl rfl ha.out hX hd.out ?_; intro pa ud hrow0 hby0 hok0; have hrow := hide_ hrow0; have hby := hide_ hby0; have hok := hide_ hok0; have hud := hide_ hby0.one'; clear hrow0 hby0 hok0)
          | ((with_reducible refine at_load ?_); refine w_pload Try.stGac _ rfl rfl rfl hrow.out rfl ?_; clear hrow)
          | ((with_reducible refine at_alloc ?_); refine w_alloc Try.stGac rfl rfl ?_; intro g9 w23 hg9 hxa f9)
          | ((with_reducible refine at_store ?_); refine w_astore Try.stGac _ _ (us := [.int .i64 d.k, ud]) rfl rfl rfl rfl rfl f9 rfl rfl (by intro y hy; simp at hy; rcases hy with rfl | rfl; rfl; exact hud.out) ?_; intro w24 hm24 f25; have hx := hm24.after hxa (fun i e => e ▸ hg9); clear hm24 hxa hg9 f9; (try replace hL := hide_ (hL.out.ext hx)); (try replace f9 := hide_ (f9.out.ext hx)); (try replace f10 := hide_ (f10.out.ext hx)); (try replace ou := hide_ (ou.out.ext TxR.stays hx)); (try replace hul := hide_ (u_lt hul.out hx)); have f9 := hide_ f25; clear f25; replace hX := hX.trans hx; (try replace hY := hY.trans hx); (try replace hZ := hZ.trans hx); clear hx)
          | ((with_reducible refine at_field ?_); (try refine w_yes _ _ _ rfl rfl rfl ?_); refine w_field Try.stGac _ _ _ rfl rfl rfl (by omega) ?_)
          | ((with_reducible refine at_load ?_); (try refine w_yes _ _ _ rfl rfl rfl ?_); refine w_fload _ rfl rfl rfl f9.out rfl (agg_of (by kernel_rfl)) ?_)
          | (go_at_call 16; refine (refMRead_any hok.out.b.1 (Nat.le_trans hok.out.b.2 (by omega)) (hby.out.ext hX)).mono ?_; rintro e w22 ⟨u10, rfl, hx, ou0⟩; rw [hoM.out] at ou0; rw [hoE.out, hoM.out]; have ou := hide_ ou0.recs; have huw := hide_ ou0.raw; have hul := hide_ (fun k (hk : u10.ownBlock = some k) => ou0.lt hk); have hun := hide_ (hL.out.apart (fun k hk => ou0.new k hk)); clear ou0; replace hL := hide_ (hL.out.ext hx); replace f9 := hide_ (f9.out.ext hx); replace hX := hX.trans hx; (try replace hY := hY.trans hx); (try replace hZ := hZ.trans hx); clear hx)
          | ((with_reducible refine at_alloc ?_); refine w_agalloc Try.agMsg rfl rfl ?_; intro g10 w25 hg10 hxa f10)
          | ((with_reducible refine at_store ?_); refine w_agput Try.agMsg (us := mRow mo u10) _ _ rfl rfl rfl rfl rfl f10 rfl rfl (m_one ou.out.oneC) ?_; intro w26 hm26 f27; have hx := hm26.after hxa (fun i e => e ▸ hg10); clear hm26 f10 hxa hg10; (try replace hL := hide_ (hL.out.ext hx)); (try replace f9 := hide_ (f9.out.ext hx)); (try replace f10 := hide_ (f10.out.ext hx)); (try replace ou := hide_ (ou.out.ext TxR.stays hx)); (try replace hul := hide_ (u_lt hul.out hx)); have f10 := hide_ f27; clear f27; replace hX := hX.trans hx; (try replace hY := hY.trans hx); (try replace hZ := hZ.trans hx); clear hx)
          | ((with_reducible refine at_field ?_); (try refine w_yes _ _ _ rfl rfl rfl ?_); refine w_mfield _ _ _ rfl rfl rfl (by omega) ?_)
          | ((with_reducible refine at_load ?_); (try refine w_yes _ _ _ rfl rfl rfl ?_); refine w_fload _ rfl rfl rfl f10.out rfl (agg_of (by kernel_rfl)) ?_)
          | ((with_reducible refine at_field ?_); (try refine w_yes _ _ _ rfl rfl rfl ?_); refine w_field Try.stGac _ _ _ rfl rfl rfl (by omega) ?_)
          | (have _t := c1; (try refine w_yes _ _ _ rfl rfl rfl ?_); refine w_empt Try.elB rfl rfl ?_; intro ge we hge hx oe; replace oe := hide_ oe; clear c1 _t hge; (try replace hL := hide_ (hL.out.ext hx)); (try replace f9 := hide_ (f9.out.ext hx)); (try replace f10 := hide_ (f10.out.ext hx)); (try replace ou := hide_ (ou.out.ext TxR.stays hx)); (try replace hul := hide_ (u_lt hul.out hx)); replace hX := hX.trans hx; (try replace hY := hY.trans hx); (try replace hZ := hZ.trans hx); clear hx)
          | (have _t := d1; (try refine w_yes _ _ _ rfl rfl rfl ?_); refine w_appE Try.elB _ _ rfl rfl rfl rfl oe.out (ys := u8s d.b) (hby.out.ext hX) (u8s_one _) (by rw [u8s_length]; have := hok.out.b.2; omega) ?_; intro v89 wf hx on; have v89b := hide_ (show Byt wf v89 d.b from Sl.of_own on); clear d1 _t on oe; (try replace hL := hide_ (hL.out.ext hx)); (try replace f9 := hide_ (f9.out.ext hx)); (try replace f10 := hide_ (f10.out.ext hx)); (try replace ou := hide_ (ou.out.ext TxR.stays hx)); (try replace hul := hide_ (u_lt hul.out hx)); replace hX := hX.trans hx; (try replace hY := hY.trans hx); (try replace hZ := hZ.trans hx); clear hx)
          | (go_at_call 10; refine (Lw.pass hL.out hok.out.b.1 (Nat.le_trans hok.out.b.2 (by omega)) v89b.out hfew.out hps.out).mono ?_; rintro e w80 ⟨rfl, hL', hN⟩; clear v89b; have hM := hL.out.maps; replace f9 := hide_ (f9.out.mapmod hN hM); replace f10 := hide_ (f10.out.mapmod hN hM); replace ou := hide_ (recsT_mapmod ou.out hN hM); replace hul := hide_ (fun k hk => Nat.lt_of_lt_of_le (hul.out k hk) hN.size); replace hX := hN.after hX hgW.out; replace hL := hide_ hL'; clear hL' hN hM hY)
          | fail) <;> (try simp only [Act.put, List.setIfInBounds_toArray, List.set_cons_zero, List.set_cons_succ]))
        go_roundw
        case rel => exact ⟨k + 1, g, S, P, by go_num, hlt'.out, hL, hide_ ⟨hI.out.1, hI.out.2.1, by have := hI.out.2.2.1; omega, by have := hI.out.2.2.2.1; omega, by have := hI.out.2.2.2.2.1; omega, by have := hI.out.2.2.2.2.2.1; omega, hI.out.2.2.2.2.2.2⟩, hn6, hn7, hX⟩
        case measure => have := hlt'.out; simp [RowKit.intOf]; omega
      obtain ⟨hO, hTn0, hSm0⟩ := OneB.pass_ok hI.out.1 hrm.out hkd.out (by rw [hps0])
      have hP2 := GaD.pass_bad (g := g) (x := d.b)
      have hP3 := hI.out.2.2.2.2.2.2.pass (x := d.b) hdO.b.1
      rw [hps0] at hO hP2 hP3
      have hfin := hide_ (show OneB gn S (P ++ [mo.bk]) ∧ gn.bad = bad ∧ gn.said.length ≤ k + 1 ∧ gn.kn.length ≤ k + 1 ∧ S.length ≤ k + 1 ∧ (P ++ [mo.bk]).length ≤ k + 1 ∧ gn.Ok from
        ⟨hO, hP2.1.trans hI.out.2.1, by rw [show gn.said = g.said from hP2.2.1]; have := hI.out.2.2.1; omega, by have h1 : gn.kn.length ≤ g.kn.length + 1 := hP2.2.2; have := hI.out.2.2.2.1; omega, by have := hI.out.2.2.2.2.1; omega, by have := hI.out.2.2.2.2.2.1; simp; omega, hP3⟩)
      have hTn := hide_ hTn0
      have hSm := hide_ (show mo.bk ∈ S ∨ mo.bk.miner ∈ gn.bad from hSm0.imp id fun h => by rw [show gn.bad = g.bad from hP2.1]; exact h)
      have hps := hide_ hps0
      clear hs6 hs7 hl6 hl7 hro6 hro7 hTR hTR6 hrT
      clear hO hP2 hP3 hTn0 hSm0 hps0
      go_upto_region 23 with ((first
        | go_big_skip
        | ((with_reducible refine at_idx ?_); refine w_gacidx Try.elGac _ _ k rfl rfl rfl rfl ha.out hX hd.out ?_; intro pa ud hrow0 hby0 hok0; have hrow := hide_ hrow0; have hby := hide_ hby0; have hok := hide_ hok0; have hud := hide_ hby0.one'; clear hrow0 hby0 hok0)
        | ((with_reducible refine at_load ?_); refine w_pload Try.stGac _ rfl rfl rfl hrow.out rfl ?_; clear hrow)
        | ((with_reducible refine at_alloc ?_); refine w_alloc Try.stGac rfl rfl ?_; intro g9 w23 hg9 hxa f9)
        | ((with_reducible refine at_store ?_); refine w_astore Try.stGac _ _ (us := [.int .i64 d.k, ud]) rfl rfl rfl rfl rfl f9 rfl rfl (by intro y hy; simp at hy; rcases hy with rfl | rfl; rfl; exact hud.out) ?_; intro w24 hm24 f25; have hx := hm24.after hxa (fun i e => e ▸ hg9); clear hm24 hxa hg9 f9; (try replace hL := hide_ (hL.out.ext hx)); (try replace f9 := hide_ (f9.out.ext hx)); (try replace f10 := hide_ (f10.out.ext hx)); (try replace ou := hide_ (ou.out.ext TxR.stays hx)); (try replace hul := hide_ (u_lt hul.out hx)); have f9 := hide_ f25; clear f25; replace hX := hX.trans hx; (try replace hY := hY.trans hx); (try replace hZ := hZ.trans hx); clear hx)
        | ((with_reducible refine at_field ?_); (try refine w_yes _ _ _ rfl rfl rfl ?_); refine w_field Try.stGac _ _ _ rfl rfl rfl (by omega) ?_)
        | ((with_reducible refine at_load ?_); (try refine w_yes _ _ _ rfl rfl rfl ?_); refine w_fload _ rfl rfl rfl f9.out rfl (agg_of (by kernel_rfl)) ?_)
        | (go_at_call 16; refine (refMRead_any hok.out.b.1 (Nat.le_trans hok.out.b.2 (by omega)) (hby.out.ext hX)).mono ?_; rintro e w22 ⟨u10, rfl, hx, ou0⟩; rw [hoM.out] at ou0; rw [hoE.out, hoM.out]; have ou := hide_ ou0.recs; have huw := hide_ ou0.raw; have hul := hide_ (fun k (hk : u10.ownBlock = some k) => ou0.lt hk); have hun := hide_ (hL.out.apart (fun k hk => ou0.new k hk)); clear ou0; replace hL := hide_ (hL.out.ext hx); replace f9 := hide_ (f9.out.ext hx); replace hX := hX.trans hx; (try replace hY := hY.trans hx); (try replace hZ := hZ.trans hx); clear hx)
        | ((with_reducible refine at_alloc ?_); refine w_agalloc Try.agMsg rfl rfl ?_; intro g10 w25 hg10 hxa f10)
        | ((with_reducible refine at_store ?_); refine w_agput Try.agMsg (us := mRow mo u10) _ _ rfl rfl rfl rfl rfl f10 rfl rfl (m_one ou.out.oneC) ?_; intro w26 hm26 f27; have hx := hm26.after hxa (fun i e => e ▸ hg10); clear hm26 f10 hxa hg10; (try replace hL := hide_ (hL.out.ext hx)); (try replace f9 := hide_ (f9.out.ext hx)); (try replace f10 := hide_ (f10.out.ext hx)); (try replace ou := hide_ (ou.out.ext TxR.stays hx)); (try replace hul := hide_ (u_lt hul.out hx)); have f10 := hide_ f27; clear f27; replace hX := hX.trans hx; (try replace hY := hY.trans hx); (try replace hZ := hZ.trans hx); clear hx)
        | ((with_reducible refine at_field ?_); (try refine w_yes _ _ _ rfl rfl rfl ?_); refine w_mfield _ _ _ rfl rfl rfl (by omega) ?_)
        | ((with_reducible refine at_load ?_); (try refine w_yes _ _ _ rfl rfl rfl ?_); refine w_fload _ rfl rfl rfl f10.out rfl (agg_of (by kernel_rfl)) ?_)
        | ((with_reducible refine at_field ?_); (try refine w_yes _ _ _ rfl rfl rfl ?_); refine w_field Try.stGac _ _ _ rfl rfl rfl (by omega) ?_)
        | (have _t := c1; (try refine w_yes _ _ _ rfl rfl rfl ?_); refine w_empt Try.elB rfl rfl ?_; intro ge we hge hx oe; replace oe := hide_ oe; clear c1 _t hge; (try replace hL := hide_ (hL.out.ext hx)); (try replace f9 := hide_ (f9.out.ext hx)); (try replace f10 := hide_ (f10.out.ext hx)); (try replace ou := hide_ (ou.out.ext TxR.stays hx)); (try replace hul := hide_ (u_lt hul.out hx)); replace hX := hX.trans hx; (try replace hY := hY.trans hx); (try replace hZ := hZ.trans hx); clear hx)
        | (have _t := d1; (try refine w_yes _ _ _ rfl rfl rfl ?_); refine w_appE Try.elB _ _ rfl rfl rfl rfl oe.out (ys := u8s d.b) (hby.out.ext hX) (u8s_one _) (by rw [u8s_length]; have := hok.out.b.2; omega) ?_; intro v89 wf hx on; have v89b := hide_ (show Byt wf v89 d.b from Sl.of_own on); clear d1 _t on oe; (try replace hL := hide_ (hL.out.ext hx)); (try replace f9 := hide_ (f9.out.ext hx)); (try replace f10 := hide_ (f10.out.ext hx)); (try replace ou := hide_ (ou.out.ext TxR.stays hx)); (try replace hul := hide_ (u_lt hul.out hx)); replace hX := hX.trans hx; (try replace hY := hY.trans hx); (try replace hZ := hZ.trans hx); clear hx)
        | (go_at_call 10; refine (Lw.pass hL.out hok.out.b.1 (Nat.le_trans hok.out.b.2 (by omega)) v89b.out hfew.out hps.out).mono ?_; rintro e w80 ⟨rfl, hL', hN⟩; clear v89b; have hM := hL.out.maps; replace f9 := hide_ (f9.out.mapmod hN hM); replace f10 := hide_ (f10.out.mapmod hN hM); replace ou := hide_ (recsT_mapmod ou.out hN hM); replace hul := hide_ (fun k hk => Nat.lt_of_lt_of_le (hul.out k hk) hN.size); replace hX := hN.after hX hgW.out; replace hL := hide_ hL'; clear hL' hN hM hY)
        | fail) <;> (try simp only [Act.put, List.setIfInBounds_toArray, List.set_cons_zero, List.set_cons_succ]))
      obtain ⟨rows6, hs60, hl60, hR60⟩ : ∃ rows, SlS w80 v6 5 rows ∧ rows.length = S.length ∧ ∀ (k : Nat) (row : List Value) (d : BlkD), rows[k]? = some row → S[k]? = some d → ∃ u, row = bRw d u ∧ Recs 2 TxR w80 u d.txs ∧ d.Raw := by obtain ⟨GG, HH, a⟩ := hL.out; exact a.r6.recs
      obtain ⟨rows7, hs70, hl70, hR70⟩ : ∃ rows, SlS w80 v7 5 rows ∧ rows.length = P.length ∧ ∀ (k : Nat) (row : List Value) (d : BlkD), rows[k]? = some row → P[k]? = some d → ∃ u, row = bRw d u ∧ Recs 2 TxR w80 u d.txs ∧ d.Raw := by obtain ⟨GG, HH, a⟩ := hL.out; exact a.r7.recs
      have hs6 := hide_ hs60
      have hs7 := hide_ hs70
      have hl6 := hide_ hl60
      have hl7 := hide_ hl70
      have hro6 := hide_ (rows_one hl60 hR60)
      have hro7 := hide_ (rows_one hl70 hR70)
      have hTR := hide_ (rows_two hl60 hR60 hl70 hR70)
      obtain ⟨rT, hrT0⟩ : ∃ r, rows6 ++ rows7 = r := ⟨_, rfl⟩
      rw [hrT0] at hTR
      have hrT := hide_ hrT0
      have hTR6 := hide_ hR60
      clear hs60 hs70 hl60 hl70 hR60 hR70 hrT0
      go_wp2_with ((first
        | go_big_skip
        | ((with_reducible refine at_bi ?_); refine w_rlen (R := fun _ row d => row = d) (l := rows6) Try.enBk.elS _ rfl rfl rfl ⟨_, hs6.out, rfl, fun k a b h1 h2 => by rw [h1] at h2; injection h2⟩ ?_)
        | fail) <;> (try simp only [Act.put, List.setIfInBounds_toArray, List.set_cons_zero, List.set_cons_succ]))
      have F9 := hide_ f9.out
      have F10 := hide_ f10.out
      have OU := hide_ ou.out
      have LL := hide_ hL.out
      have HUL := hide_ hul.out
      have hX80 := hide_ hX
      clear hX f9 f10 ou hL hul
      go_loopw [15, 110] (fun u15 i wr2 => ∃ (j : Nat) (th : Bool), u15 = .bool th ∧ i = .int .i64 j ∧ j ≤ rows6.length ∧ Hid (th = true ↔ mo.bk ∈ S.take j) ∧ Ext w80 wr2) (fun _ i _ => rows6.length - (RowKit.intOf i).toNat)
      case atStart => exact ⟨0, false, rfl, rfl, Nat.zero_le _, hide_ (by simp), Ext.refl _⟩
      case round =>
      obtain ⟨j, th, rfl, rfl, hj, hth, hZ⟩ := hrel
      have hX := hX80.out.trans hZ
      have f9 := hide_ (F9.out.ext hZ)
      have f10 := hide_ (F10.out.ext hZ)
      have ou := hide_ (OU.out.ext TxR.stays hZ)
      have hL := hide_ (LL.out.ext hZ)
      have hul := hide_ (u_lt HUL.out hZ)
      by_cases hgj : rows6.length ≤ j
      rotate_left
      · have hltj : j < rows6.length := by omega
        have t8 : decide (j < rows6.length) = true := by simpa using hltj
        obtain ⟨b, hb0⟩ : ∃ b, S[j]? = some b := ⟨_, List.getElem?_eq_getElem (by have := hl6.out; omega)⟩
        obtain ⟨u, hru, hub0, hrb0⟩ := hTR6.out j _ b (List.getElem?_eq_getElem hltj) hb0
        have hrow := hide_ (show rows6[j]? = some (bRw b u) from by rw [List.getElem?_eq_getElem hltj, hru])
        have hub := hide_ hub0
        have h1u := hide_ (blk_one (a := b.slot) (b := b.miner) (c := b.var) (d := b.parent) hub0.oneC)
        have hlj := hide_ hltj
        have hjb : j ≤ 200 := by have h1 := hl6.out; have h2 := hSl.out; omega
        obtain ⟨qs, hqs0⟩ : ∃ q, decide (b = mo.bk) = q := ⟨_, rfl⟩
        have hth2 := hide_ (show (th || qs) = true ↔ mo.bk ∈ S.take (j + 1) from by
          rw [List.take_add_one, hb0, Bool.or_eq_true, hth.out, ← hqs0]
          simp only [List.mem_append, Option.toList_some, List.mem_singleton, decide_eq_true_eq, eq_comm (a := mo.bk) (b := b)])
        have hqs := hide_ (show b.same mo.bk = qs from by rw [← hqs0, Bool.eq_iff_iff, BlkD.same_iff, decide_eq_true_iff])
        clear hgj hltj hb0 hru hub0 hrb0 F9 F10 OU LL HUL hX80 hj hqs0 hth
        cases th
        all_goals
          go_wp2_with ((first
            | go_big_skip
            | (refine w_sidx Try.enBk.elS _ _ j rfl rfl rfl rfl hs6.out hZ hrow.out ?_; intro pa hrow1; have hrow := hide_ hrow1; clear hrow1)
            | ((with_reducible refine at_load ?_); refine w_pload Try.stBlk _ rfl rfl rfl hrow.out rfl ?_; clear hrow)
            | ((with_reducible refine at_alloc ?_); refine w_alloc Try.stBlk rfl rfl ?_; intro g17 w70 hg70 hxa f17)
            | ((with_reducible refine at_store ?_); refine w_astore Try.stBlk _ _ (us := bRw b u) rfl rfl rfl rfl rfl f17 rfl rfl h1u.out ?_; intro w71 hm71 f72; have hx := hm71.after hxa (fun i e => e ▸ hg70); clear hm71 hxa hg70 f17; (try replace hL := hide_ (hL.out.ext hx)); (try replace f9 := hide_ (f9.out.ext hx)); (try replace f10 := hide_ (f10.out.ext hx)); (try replace ou := hide_ (ou.out.ext TxR.stays hx)); (try replace hul := hide_ (u_lt hul.out hx)); have f17 := hide_ (show Fs w71 g17 (bRw b u) from f72); clear f72; replace hX := hX.trans hx; (try replace hY := hY.trans hx); (try replace hZ := hZ.trans hx); clear hx)
            | ((with_reducible refine at_field ?_); (try refine w_yes _ _ _ rfl rfl rfl ?_); refine w_mfield _ _ _ rfl rfl rfl (by omega) ?_)
            | ((with_reducible refine at_load ?_); (try refine w_yes _ _ _ rfl rfl rfl ?_); refine w_loadN Try.stBlkM _ (bRw mo.bk u10) rfl rfl rfl f10.out rfl (mbk_at mo u10) ?_)
            | ((with_reducible refine at_load ?_); (try refine w_yes _ _ _ rfl rfl rfl ?_); refine w_aload Try.stBlk (cs := bRw b u) _ rfl rfl rfl f17.out rfl ?_)
            | (go_at_call 18; refine (refBSame_any (b := b) (b2 := mo.bk) (hub.out.ext TxR.stays hZ) ou.out).mono ?_; rintro e w90 ⟨rfl, hx⟩; rw [hqs.out]; (try replace hL := hide_ (hL.out.ext hx)); (try replace f9 := hide_ (f9.out.ext hx)); (try replace f10 := hide_ (f10.out.ext hx)); (try replace ou := hide_ (ou.out.ext TxR.stays hx)); (try replace hul := hide_ (u_lt hul.out hx)); replace hX := hX.trans hx; (try replace hY := hY.trans hx); (try replace hZ := hZ.trans hx); clear hx)
            | fail) <;> (try simp only [Act.put, List.setIfInBounds_toArray, List.set_cons_zero, List.set_cons_succ]))
          go_roundw
          case rel => exact ⟨j + 1, _, rfl, by go_num, hlj.out, hth2, hZ⟩
          case measure => have := hlj.out; simp [RowKit.intOf]; omega
      obtain rfl : j = rows6.length := by omega
      have t8 : decide (rows6.length < rows6.length) = false := by simp
      have hthm := hide_ (show th = true ∨ mo.bk.miner ∈ gn.bad from hSm.out.imp (fun h => hth.out.2 (by rw [hl6.out, List.take_length]; exact h)) id)
      have hY := hZ
      clear hgj F9 F10 OU LL HUL hX80 hj hth hZ
      go_wp2_with ((first
        | go_big_skip
        | ((with_reducible refine at_lit ?_); refine w_nnew Try.enBk [] rfl rfl rfl (by simp) rfl (by omega) ?_; intro v58 w58 B hB1 hB2 hxa n58; replace n58 := n58.mono (G := fun k => B ≤ k) (fun k h => h.1); have hs7b := hs7.out.ext hY; have hs6b := (hs6.out.ext hY).ext hxa)
        | ((with_reducible refine at_bi ?_); refine w_napp0 Try.enBk _ _ rfl rfl rfl rfl n58 hs6b hro6.out (by rw [hl6.out]; have := hSl.out; simp; omega) ?_; intro v60 w60 hm60 n60; replace n60 := n60.mono (G := fun k => B ≤ k) (fun k h => h.elim id fun e => Nat.le_trans hB2 e.1); have hB60 := Nat.le_trans hB2 hm60.size; have hxb := hm60.after hxa (fun i e => Nat.le_trans hB1 e); clear n58 hm60 hs6b hxa)
        | ((with_reducible refine at_bi ?_); refine w_napp0 Try.enBk _ _ rfl rfl rfl rfl n60 (hs7b.ext hxb) hro7.out (by rw [List.nil_append, hl6.out, hl7.out]; have := hSl.out; have := hPl.out; omega) ?_; intro v62 w62 hm62 n62; have hx := hm62.after hxb (fun i e => Nat.le_trans hB1 e); have hT := hide_ (show SlS w62 v62 5 rT from by have := n62.slS; rw [List.nil_append, hrT.out] at this; exact this); clear n60 n62 hm62 hB60 hxb hB1 hB2 hs7b; (try replace hL := hide_ (hL.out.ext hx)); (try replace f9 := hide_ (f9.out.ext hx)); (try replace f10 := hide_ (f10.out.ext hx)); (try replace ou := hide_ (ou.out.ext TxR.stays hx)); (try replace hul := hide_ (u_lt hul.out hx)); replace hX := hX.trans hx; (try replace hY := hY.trans hx); (try replace hZ := hZ.trans hx); clear hx)
        | ((with_reducible refine at_bi ?_); refine w_rlen (R := fun _ row d => row = d) (l := rT) Try.enBk.elS _ rfl rfl rfl ⟨_, hT.out, rfl, fun k a b h1 h2 => by rw [h1] at h2; injection h2⟩ ?_)
        | fail) <;> (try simp only [Act.put, List.setIfInBounds_toArray, List.set_cons_zero, List.set_cons_succ]))
      have hZ := Ext.refl w62
      have hTl := hide_ (show rT.length = (S ++ P).length from by rw [← hrT.out, List.length_append, List.length_append, hl6.out, hl7.out])
      have F9 := hide_ f9.out
      have F10 := hide_ f10.out
      have OU := hide_ ou.out
      have LL := hide_ hL.out
      have HUL := hide_ hul.out
      have hX62 := hide_ hX
      have hY62 := hide_ hY
      clear hX hY hZ f9 f10 ou hL hul
      go_loopw [128] (fun i wr2 => ∃ j : Nat, i = .int .i64 j ∧ j ≤ rT.length ∧ Hid (True) ∧ Ext w62 wr2) (fun i _ => rT.length - (RowKit.intOf i).toNat)
      case atStart => exact ⟨0, rfl, Nat.zero_le _, hide_ (trivial), Ext.refl _⟩
      case round =>
      obtain ⟨j, rfl, hj, hin, hZ⟩ := hrel
      have hX := hX62.out.trans hZ
      have hY := hY62.out.trans hZ
      have f9 := hide_ (F9.out.ext hZ)
      have f10 := hide_ (F10.out.ext hZ)
      have ou := hide_ (OU.out.ext TxR.stays hZ)
      have hL := hide_ (LL.out.ext hZ)
      have hul := hide_ (u_lt HUL.out hZ)
      by_cases hgj : rT.length ≤ j
      rotate_left
      · have hltj : j < rT.length := by omega
        have t8 : decide (j < rT.length) = true := by simpa using hltj
        obtain ⟨b, hb0⟩ : ∃ b, (S ++ P)[j]? = some b := ⟨_, List.getElem?_eq_getElem (by have := hTl.out; omega)⟩
        obtain ⟨u, hru, hub0, hrb0⟩ := hTR.out j _ b (List.getElem?_eq_getElem hltj) hb0
        have hbj := hide_ hb0
        have hrow := hide_ (show rT[j]? = some (bRw b u) from by rw [List.getElem?_eq_getElem hltj, hru])
        have hub := hide_ (hub0.ext TxR.stays hY62.out)
        have hrb := hide_ hrb0
        have h1u := hide_ (blk_one (a := b.slot) (b := b.miner) (c := b.var) (d := b.parent) hub0.oneC)
        have hlj := hide_ hltj
        have hjb : j ≤ 200 := by have h1 := hTl.out; have h2 := hSl.out; have h3 := hPl.out; rw [List.length_append] at h1; omega
        clear hgj hltj hb0 hru hub0 hrb0 F9 F10 OU LL HUL hX62 hY62 hj
        have hin2 := hide_ trivial
        by_cases hnm : b.name = mo.bk.name
        rotate_left
        · have tn : (b.name == mo.bk.name) = false := by simpa using hnm
          clear hnm
          go_wp2_with ((first
            | go_big_skip
            | (refine w_sidx Try.enBk.elS _ _ j rfl rfl rfl rfl hT.out hZ hrow.out ?_; intro pa hrow1; have hrow := hide_ hrow1; clear hrow1)
            | ((with_reducible refine at_load ?_); refine w_pload Try.stBlk _ rfl rfl rfl hrow.out rfl ?_; clear hrow)
            | ((with_reducible refine at_alloc ?_); refine w_alloc Try.stBlk rfl rfl ?_; intro g19 w70 hg70 hxa f19)
            | ((with_reducible refine at_store ?_); refine w_astore Try.stBlk _ _ (us := bRw b u) rfl rfl rfl rfl rfl f19 rfl rfl h1u.out ?_; intro w71 hm71 f72; have hx := hm71.after hxa (fun i e => e ▸ hg70); clear hm71 hxa hg70 f19; (try replace hL := hide_ (hL.out.ext hx)); (try replace f9 := hide_ (f9.out.ext hx)); (try replace f10 := hide_ (f10.out.ext hx)); (try replace ou := hide_ (ou.out.ext TxR.stays hx)); (try replace hul := hide_ (u_lt hul.out hx)); have f19 := hide_ (show Fs w71 g19 (bRw b u) from f72); clear f72; replace hX := hX.trans hx; (try replace hY := hY.trans hx); (try replace hZ := hZ.trans hx); clear hx)
            | fail) <;> (try simp only [Act.put, List.setIfInBounds_toArray, List.set_cons_zero, List.set_cons_succ]))
          refine wp_region_phx (by kernel_rfl) ?_; intro wd hxd; have F14 := f19.out.ext hxd; have F10 := f10.out.ext hxd
          refine Ph.rest 0 13 (by kernel_rfl) ?_
          refine LinL.step (s := (.val (.agg #[.int .i64 b.slot, .int .i64 b.miner, .int .i64 b.var, .int .i64 b.parent, u]))) [(19, none)] rfl (by kernel_rfl) (op_runs rfl fun σ w' hx hg => ⟨_, runs_aload (ρ := σ.eval) (w := w') Try.stBlk (.tmp 19) rfl hg.1 (F14.ext hx) rfl, rfl⟩) ?_
          refine LinL.step (s := (.val (.int .i64 b.name))) [(132, some 0)] rfl (by kernel_rfl) (op_calls 17 #[(.tmp 132)] #[46] (fun σ => #[.agg #[.int .i64 b.slot, .int .i64 b.miner, .int .i64 b.var, .int .i64 b.parent, u]]) rfl rfl (fun _ _ => rfl) fun σ w' hx hg => ⟨by have h132 : σ.tmps.getD 132 undef = .agg #[.int .i64 b.slot, .int .i64 b.miner, .int .i64 b.var, .int .i64 b.parent, u] := hg.1; simp only [List.map_toArray, List.map_cons, List.map_nil, Act.eval, h132], refnameR (b := b) (hub.out.ext TxR.stays (hZ.trans (hxd.trans hx))) hrb.out.parent⟩) ?_
          refine LinL.step (s := (.val (.pointer (some ⟨g10, 8, none⟩)))) [(10, none)] rfl (by kernel_rfl) (op_runs rfl fun σ w' hx hg => ⟨_, runs_mfield (ρ := σ.eval) (w := w') (.tmp 10) g10 7 rfl hg.1 (by omega), rfl⟩) ?_
          refine LinL.step (s := (.val (.agg (bRw mo.bk u10).toArray))) [(134, some 0)] rfl (by kernel_rfl) (op_runs rfl fun σ w' hx hg => ⟨_, runs_loadN (ρ := σ.eval) (w := w') (us := bRw mo.bk u10) Try.stBlkM (.tmp 134) rfl hg.1 (F10.ext hx) rfl (mbk_at mo u10), rfl⟩) ?_
          refine LinL.step (s := (.val (.int .i64 mo.bk.name))) [(135, some 0)] rfl (by kernel_rfl) (op_calls 17 #[(.tmp 135)] #[46] (fun σ => #[.agg (bRw mo.bk u10).toArray]) rfl rfl (fun _ _ => rfl) fun σ w' hx hg => ⟨by have h135 : σ.tmps.getD 135 undef = .agg (bRw mo.bk u10).toArray := hg.1; simp only [List.map_toArray, List.map_cons, List.map_nil, Act.eval, h135], refnameR (b := mo.bk) (ou.out.ext TxR.stays (hxd.trans hx)) hmp.out⟩) ?_
          refine LinL.step (s := (.val (.bool false))) [(133, some 3), (136, some 0)] rfl (by kernel_rfl) (op_runs rfl fun σ w' hx hg => ⟨(.bool false), by have h133 : σ.tmps.getD 133 undef = .int .i64 b.name := hg.1; have h136 : σ.tmps.getD 136 undef = .int .i64 mo.bk.name := hg.2.1; unfold Runs execOp; simp [Act.eval, h133, h136, go_sem, tn], rfl⟩) ?_
          refine LinL.step (s := (.val (.bool false))) [(137, some 0)] rfl (by kernel_rfl) (op_copy 137 0 (.val (.bool false)) rfl (.inl rfl) rfl) ?_
          refine LinL.step (s := .val undef) [(19, none), (138, some 0)] rfl (by kernel_rfl) (op_no (reads := [(19, none)]) 6 138 0 true rfl rfl rfl) ?_
          refine LinL.step (s := .val undef) [(10, none), (138, some 1)] rfl (by kernel_rfl) (op_no (reads := [(10, none)]) 6 138 1 true rfl rfl rfl) ?_
          refine LinL.step (s := .val undef) [(140, some 0), (138, some 2)] rfl (by kernel_rfl) (op_no (reads := [(140, some 0)]) 6 138 2 true rfl rfl rfl) ?_
          refine LinL.step (s := .val undef) [(139, some 2), (141, some 0), (138, some 3)] rfl (by kernel_rfl) (op_no (reads := [(139, some 2), (141, some 0)]) 6 138 3 true rfl rfl rfl) ?_
          refine LinL.step (s := .val undef) [(142, some 0), (138, some 4)] rfl (by kernel_rfl) (op_no (reads := [(142, some 0)]) 6 138 4 true rfl rfl rfl) ?_
          refine LinL.step (s := (.val (.bool false))) [(138, some 5), (143, some 0)] rfl (by kernel_rfl) (op_runs rfl fun σ w' hx hg => ⟨_, runs_pick_f (ρ := σ.eval) (w := w') (.tmp 138) (.tmp 143) (.const (.bool false)) rfl hg.1 rfl, rfl⟩) ?_
          intro wN hxN
          simp only [Fin', List.reverse_cons, List.reverse_nil, List.nil_append, List.cons_append, List.drop_zero, List.take_succ_cons, List.take_zero]
          simp only [Act.put, List.setIfInBounds_toArray, List.set_cons_zero, List.set_cons_succ]
          have hx := hxd.trans hxN
          (try replace hL := hide_ (hL.out.ext hx)); (try replace f9 := hide_ (f9.out.ext hx)); (try replace f10 := hide_ (f10.out.ext hx)); (try replace ou := hide_ (ou.out.ext TxR.stays hx)); (try replace hul := hide_ (u_lt hul.out hx))
          replace hX := hX.trans hx; (try replace hY := hY.trans hx); (try replace hZ := hZ.trans hx); clear hx
          clear hxd hxN F14 F10
          go_wp2
          go_roundw
          case rel => exact ⟨j + 1, by go_num, hlj.out, hin2, hZ⟩
          case measure => have := hlj.out; simp [RowKit.intOf]; omega
        have tn : (b.name == mo.bk.name) = true := by simpa using hnm
        have hqs := hide_ (decide_eq_true (hTn.out b (List.mem_of_getElem? hbj.out) hnm))
        clear hnm
        go_wp2_with ((first
          | go_big_skip
          | (refine w_sidx Try.enBk.elS _ _ j rfl rfl rfl rfl hT.out hZ hrow.out ?_; intro pa hrow1; have hrow := hide_ hrow1; clear hrow1)
          | ((with_reducible refine at_load ?_); refine w_pload Try.stBlk _ rfl rfl rfl hrow.out rfl ?_; clear hrow)
          | ((with_reducible refine at_alloc ?_); refine w_alloc Try.stBlk rfl rfl ?_; intro g19 w70 hg70 hxa f19)
          | ((with_reducible refine at_store ?_); refine w_astore Try.stBlk _ _ (us := bRw b u) rfl rfl rfl rfl rfl f19 rfl rfl h1u.out ?_; intro w71 hm71 f72; have hx := hm71.after hxa (fun i e => e ▸ hg70); clear hm71 hxa hg70 f19; (try replace hL := hide_ (hL.out.ext hx)); (try replace f9 := hide_ (f9.out.ext hx)); (try replace f10 := hide_ (f10.out.ext hx)); (try replace ou := hide_ (ou.out.ext TxR.stays hx)); (try replace hul := hide_ (u_lt hul.out hx)); have f19 := hide_ (show Fs w71 g19 (bRw b u) from f72); clear f72; replace hX := hX.trans hx; (try replace hY := hY.trans hx); (try replace hZ := hZ.trans hx); clear hx)
          | fail) <;> (try simp only [Act.put, List.setIfInBounds_toArray, List.set_cons_zero, List.set_cons_succ]))
        refine wp_region_phx (by kernel_rfl) ?_; intro wd hxd; have F14 := f19.out.ext hxd; have F10 := f10.out.ext hxd
        refine Ph.rest 0 13 (by kernel_rfl) ?_
        refine LinL.step (s := (.val (.agg #[.int .i64 b.slot, .int .i64 b.miner, .int .i64 b.var, .int .i64 b.parent, u]))) [(19, none)] rfl (by kernel_rfl) (op_runs rfl fun σ w' hx hg => ⟨_, runs_aload (ρ := σ.eval) (w := w') Try.stBlk (.tmp 19) rfl hg.1 (F14.ext hx) rfl, rfl⟩) ?_
        refine LinL.step (s := (.val (.int .i64 b.name))) [(132, some 0)] rfl (by kernel_rfl) (op_calls 17 #[(.tmp 132)] #[46] (fun σ => #[.agg #[.int .i64 b.slot, .int .i64 b.miner, .int .i64 b.var, .int .i64 b.parent, u]]) rfl rfl (fun _ _ => rfl) fun σ w' hx hg => ⟨by have h132 : σ.tmps.getD 132 undef = .agg #[.int .i64 b.slot, .int .i64 b.miner, .int .i64 b.var, .int .i64 b.parent, u] := hg.1; simp only [List.map_toArray, List.map_cons, List.map_nil, Act.eval, h132], refnameR (b := b) (hub.out.ext TxR.stays (hZ.trans (hxd.trans hx))) hrb.out.parent⟩) ?_
        refine LinL.step (s := (.val (.pointer (some ⟨g10, 8, none⟩)))) [(10, none)] rfl (by kernel_rfl) (op_runs rfl fun σ w' hx hg => ⟨_, runs_mfield (ρ := σ.eval) (w := w') (.tmp 10) g10 7 rfl hg.1 (by omega), rfl⟩) ?_
        refine LinL.step (s := (.val (.agg (bRw mo.bk u10).toArray))) [(134, some 0)] rfl (by kernel_rfl) (op_runs rfl fun σ w' hx hg => ⟨_, runs_loadN (ρ := σ.eval) (w := w') (us := bRw mo.bk u10) Try.stBlkM (.tmp 134) rfl hg.1 (F10.ext hx) rfl (mbk_at mo u10), rfl⟩) ?_
        refine LinL.step (s := (.val (.int .i64 mo.bk.name))) [(135, some 0)] rfl (by kernel_rfl) (op_calls 17 #[(.tmp 135)] #[46] (fun σ => #[.agg (bRw mo.bk u10).toArray]) rfl rfl (fun _ _ => rfl) fun σ w' hx hg => ⟨by have h135 : σ.tmps.getD 135 undef = .agg (bRw mo.bk u10).toArray := hg.1; simp only [List.map_toArray, List.map_cons, List.map_nil, Act.eval, h135], refnameR (b := mo.bk) (ou.out.ext TxR.stays (hxd.trans hx)) hmp.out⟩) ?_
        refine LinL.step (s := (.val (.bool true))) [(133, some 3), (136, some 0)] rfl (by kernel_rfl) (op_runs rfl fun σ w' hx hg => ⟨(.bool true), by have h133 : σ.tmps.getD 133 undef = .int .i64 b.name := hg.1; have h136 : σ.tmps.getD 136 undef = .int .i64 mo.bk.name := hg.2.1; unfold Runs execOp; simp [Act.eval, h133, h136, go_sem, tn], rfl⟩) ?_
        refine LinL.step (s := (.val (.bool true))) [(137, some 0)] rfl (by kernel_rfl) (op_copy 137 0 (.val (.bool true)) rfl (.inl rfl) rfl) ?_
        refine LinL.step (s := (.val (.agg #[.int .i64 b.slot, .int .i64 b.miner, .int .i64 b.var, .int .i64 b.parent, u]))) [(19, none), (138, some 0)] rfl (by kernel_rfl) (op_yes (reads := [(19, none)]) 6 138 0 true rfl rfl rfl (op_runs rfl fun σ w' hx hg => ⟨_, runs_aload (ρ := σ.eval) (w := w') Try.stBlk (.tmp 19) rfl hg.1 (F14.ext hx) rfl, rfl⟩)) ?_
        refine LinL.step (s := (.val (.pointer (some ⟨g10, 8, none⟩)))) [(10, none), (138, some 1)] rfl (by kernel_rfl) (op_yes (reads := [(10, none)]) 6 138 1 true rfl rfl rfl (op_runs rfl fun σ w' hx hg => ⟨_, runs_mfield (ρ := σ.eval) (w := w') (.tmp 10) g10 7 rfl hg.1 (by omega), rfl⟩)) ?_
        refine LinL.step (s := (.val (.agg (bRw mo.bk u10).toArray))) [(140, some 0), (138, some 2)] rfl (by kernel_rfl) (op_yes (reads := [(140, some 0)]) 6 138 2 true rfl rfl rfl (op_runs rfl fun σ w' hx hg => ⟨_, runs_loadN (ρ := σ.eval) (w := w') (us := bRw mo.bk u10) Try.stBlkM (.tmp 140) rfl hg.1 (F10.ext hx) rfl (mbk_at mo u10), rfl⟩)) ?_
        refine LinL.step (s := (.val (.bool true))) [(139, some 2), (141, some 0), (138, some 3)] rfl (by kernel_rfl) (op_yes (reads := [(139, some 2), (141, some 0)]) 6 138 3 true rfl rfl rfl (op_calls 18 #[(.tmp 139), (.tmp 141)] #[46, 46] (fun σ => #[.agg #[.int .i64 b.slot, .int .i64 b.miner, .int .i64 b.var, .int .i64 b.parent, u], .agg (bRw mo.bk u10).toArray]) rfl rfl (fun _ _ => rfl) fun σ w' hx hg => ⟨by have h139 : σ.tmps.getD 139 undef = .agg #[.int .i64 b.slot, .int .i64 b.miner, .int .i64 b.var, .int .i64 b.parent, u] := hg.1; have h141 : σ.tmps.getD 141 undef = .agg (bRw mo.bk u10).toArray := hg.2.1; simp only [List.map_toArray, List.map_cons, List.map_nil, Act.eval, h139, h141], bsameRG (b := b) (b2 := mo.bk) (hub.out.ext TxR.stays (hZ.trans (hxd.trans hx))) (ou.out.ext TxR.stays (hxd.trans hx)) hqs.out⟩)) ?_
        refine LinL.step (s := (.val (.bool false))) [(142, some 0), (138, some 4)] rfl (by kernel_rfl) (op_yes (reads := [(142, some 0)]) 6 138 4 true rfl rfl rfl (op_runs rfl fun σ w' hx hg => ⟨(.bool false), by have h142 : σ.tmps.getD 142 undef = .bool true := hg.1; unfold Runs execOp; simp [Act.eval, h142, go_sem], rfl⟩)) ?_
        refine LinL.step (s := (.val (.bool false))) [(138, some 5), (143, some 0)] rfl (by kernel_rfl) (op_runs rfl fun σ w' hx hg => ⟨_, runs_pick_t (ρ := σ.eval) (w := w') (.tmp 138) (.tmp 143) (.const (.bool false)) rfl hg.1 hg.2.1, rfl⟩) ?_
        intro wN hxN
        simp only [Fin', List.reverse_cons, List.reverse_nil, List.nil_append, List.cons_append, List.drop_zero, List.take_succ_cons, List.take_zero]
        simp only [Act.put, List.setIfInBounds_toArray, List.set_cons_zero, List.set_cons_succ]
        have hx := hxd.trans hxN
        (try replace hL := hide_ (hL.out.ext hx)); (try replace f9 := hide_ (f9.out.ext hx)); (try replace f10 := hide_ (f10.out.ext hx)); (try replace ou := hide_ (ou.out.ext TxR.stays hx)); (try replace hul := hide_ (u_lt hul.out hx))
        replace hX := hX.trans hx; (try replace hY := hY.trans hx); (try replace hZ := hZ.trans hx); clear hx
        clear hxd hxN F14 F10
        go_wp2
        go_roundw
        case rel => exact ⟨j + 1, by go_num, hlj.out, hin2, hZ⟩
        case measure => have := hlj.out; simp [RowKit.intOf]; omega
      obtain rfl : j = rT.length := by omega
      have t8 : decide (rT.length < rT.length) = false := by simp
      clear hgj F9 F10 OU LL HUL hX62 hY62 hj
      clear hs6 hs7 hl6 hl7 hro6 hro7 hTR hTR6 hT hTl hin hZ hrT
      cases th
      · have hbd := hide_ (show decide (mo.bk.miner ∈ gn.bad) = true from decide_eq_true (hthm.out.resolve_left (fun h => nomatch h)))
        clear hthm
        go_wp2_with ((first
          | go_big_skip
          | ((with_reducible refine at_field ?_); (try refine w_yes _ _ _ rfl rfl rfl ?_); refine w_mfield _ _ _ rfl rfl rfl (by omega) ?_)
          | ((with_reducible refine at_field ?_); (try refine w_yes _ _ _ rfl rfl rfl ?_); refine w_bfieldM _ _ 1 rfl rfl rfl (by omega) ?_)
          | ((with_reducible refine at_load ?_); (try refine w_yes _ _ _ rfl rfl rfl ?_); refine w_loadN Try.stBlkM _ (bRw mo.bk u10) rfl rfl rfl f10.out rfl (mbk_at mo u10) ?_)
          | ((with_reducible refine at_load ?_); (try refine w_yes _ _ _ rfl rfl rfl ?_); refine w_fload _ rfl rfl rfl f10.out rfl (agg_of (by kernel_rfl)) ?_)
          | (go_at_call 11; refine (Lw.bad hL.out hbd.out).mono ?_; rintro e w91 ⟨rfl, hx⟩; (try replace hL := hide_ (hL.out.ext hx)); (try replace f9 := hide_ (f9.out.ext hx)); (try replace f10 := hide_ (f10.out.ext hx)); (try replace ou := hide_ (ou.out.ext TxR.stays hx)); (try replace hul := hide_ (u_lt hul.out hx)); replace hX := hX.trans hx; (try replace hY := hY.trans hx); (try replace hZ := hZ.trans hx); clear hx)
          | ((with_reducible refine at_lit ?_); refine w_nnew Try.enBk [bRw mo.bk u10] rfl rfl rfl (by simp [bRw]) rfl (by omega) ?_; intro v95 w95 B95 hB1 hB2 hx n95; have hs95 := hide_ n95.slS; clear hB1 hB2 n95; (try replace hL := hide_ (hL.out.ext hx)); (try replace f9 := hide_ (f9.out.ext hx)); (try replace f10 := hide_ (f10.out.ext hx)); (try replace ou := hide_ (ou.out.ext TxR.stays hx)); (try replace hul := hide_ (u_lt hul.out hx)); replace hX := hX.trans hx; (try replace hY := hY.trans hx); (try replace hZ := hZ.trans hx); clear hx)
          | ((with_reducible refine at_bi ?_); obtain ⟨GG, HH, hS9⟩ := hL.out; obtain ⟨rowsA, hrA, hlA, hRA⟩ := hS9.r7; refine w_napp Try.enBk _ _ rfl rfl rfl rfl hrA hs95.out (by simp) (by intro y hy; rw [List.mem_singleton] at hy; subst hy; exact blk_one ou.out.oneC) (by rw [hlA]; have := hPl.out; simp; omega) ?_; intro v96 w96 hm96 n96; have hLn := hide_ (LwS.app7 hS9 hrA hlA hRA hm96 n96 ou.out hmr.out hul.out (fun k hk => (hun.out k hk).1) (fun k hk => (hun.out k hk).2)); have hXn := hide_ (hm96.after hX (fun i e => hn7.out i e)); have hnn := hide_ (fun k hk => (n96.inF k hk).elim (fun e => hn7.out k e) fun e => Nat.le_trans hX.size e.1); clear hS9 hrA hlA hRA hm96 n96 hs95)
          | fail) <;> (try simp only [Act.put, List.setIfInBounds_toArray, List.set_cons_zero, List.set_cons_succ]))
        go_roundw
        case rel => exact ⟨k + 1, gn, S, P ++ [mo.bk], by go_num, hlt'.out, hLn, hfin, hn6, hnn, hXn.out⟩
        case measure => have := hlt'.out; simp [RowKit.intOf]; omega
      · clear hthm
        go_wp2_with ((first
          | go_big_skip
          | ((with_reducible refine at_field ?_); (try refine w_yes _ _ _ rfl rfl rfl ?_); refine w_mfield _ _ _ rfl rfl rfl (by omega) ?_)
          | ((with_reducible refine at_load ?_); (try refine w_yes _ _ _ rfl rfl rfl ?_); refine w_loadN Try.stBlkM _ (bRw mo.bk u10) rfl rfl rfl f10.out rfl (mbk_at mo u10) ?_)
          | ((with_reducible refine at_lit ?_); refine w_nnew Try.enBk [bRw mo.bk u10] rfl rfl rfl (by simp [bRw]) rfl (by omega) ?_; intro v95 w95 B95 hB1 hB2 hx n95; have hs95 := hide_ n95.slS; clear hB1 hB2 n95; (try replace hL := hide_ (hL.out.ext hx)); (try replace f9 := hide_ (f9.out.ext hx)); (try replace f10 := hide_ (f10.out.ext hx)); (try replace ou := hide_ (ou.out.ext TxR.stays hx)); (try replace hul := hide_ (u_lt hul.out hx)); replace hX := hX.trans hx; (try replace hY := hY.trans hx); (try replace hZ := hZ.trans hx); clear hx)
          | ((with_reducible refine at_bi ?_); obtain ⟨GG, HH, hS9⟩ := hL.out; obtain ⟨rowsA, hrA, hlA, hRA⟩ := hS9.r7; refine w_napp Try.enBk _ _ rfl rfl rfl rfl hrA hs95.out (by simp) (by intro y hy; rw [List.mem_singleton] at hy; subst hy; exact blk_one ou.out.oneC) (by rw [hlA]; have := hPl.out; simp; omega) ?_; intro v96 w96 hm96 n96; have hLn := hide_ (LwS.app7 hS9 hrA hlA hRA hm96 n96 ou.out hmr.out hul.out (fun k hk => (hun.out k hk).1) (fun k hk => (hun.out k hk).2)); have hXn := hide_ (hm96.after hX (fun i e => hn7.out i e)); have hnn := hide_ (fun k hk => (n96.inF k hk).elim (fun e => hn7.out k e) fun e => Nat.le_trans hX.size e.1); clear hS9 hrA hlA hRA hm96 n96 hs95)
          | fail) <;> (try simp only [Act.put, List.setIfInBounds_toArray, List.set_cons_zero, List.set_cons_succ]))
        go_roundw
        case rel => exact ⟨k + 1, gn, S, P ++ [mo.bk], by go_num, hlt'.out, hLn, hfin, hn6, hnn, hXn.out⟩
        case measure => have := hlt'.out; simp [RowKit.intOf]; omega
  have hrm := hide_ hrm0
  clear hrm0
  rcases hoz with hoz | ⟨hoz, hkd0⟩
  rotate_left
  have te : (((oe0 : Nat) : Int) == 0) = true := by simpa using hoz
  have te2 : (oe0 == 0) = true := by simpa using hoz
  have tk : (mo.kd == 1) = false := by simpa using hkd0
  clear hoz hkd0
  rotate_left
  have te : (((oe0 : Nat) : Int) == 0) = false := by simpa using hoz
  have te2 : (oe0 == 0) = false := by simpa using hoz
  clear hoz
  all_goals
    by_cases hk0 : d.k = 0
    · have t3 : (d.k == 0) = true := by simpa using hk0
      clear hk0
      go_wp2_with ((first
        | go_big_skip
        | ((with_reducible refine at_idx ?_); refine w_gacidx Try.elGac _ _ k rfl rfl rfl rfl ha.out hX hd.out ?_; intro pa ud hrow0 hby0 hok0; have hrow := hide_ hrow0; have hby := hide_ hby0; have hok := hide_ hok0; have hud := hide_ hby0.one'; clear hrow0 hby0 hok0)
        | ((with_reducible refine at_load ?_); refine w_pload Try.stGac _ rfl rfl rfl hrow.out rfl ?_; clear hrow)
        | ((with_reducible refine at_alloc ?_); refine w_alloc Try.stGac rfl rfl ?_; intro g9 w23 hg9 hxa f9)
        | ((with_reducible refine at_store ?_); refine w_astore Try.stGac _ _ (us := [.int .i64 d.k, ud]) rfl rfl rfl rfl rfl f9 rfl rfl (by intro y hy; simp at hy; rcases hy with rfl | rfl; rfl; exact hud.out) ?_; intro w24 hm24 f25; have hx := hm24.after hxa (fun i e => e ▸ hg9); clear hm24 hxa hg9 f9; (try replace hL := hide_ (hL.out.ext hx)); (try replace f9 := hide_ (f9.out.ext hx)); (try replace f10 := hide_ (f10.out.ext hx)); (try replace ou := hide_ (ou.out.ext TxR.stays hx)); (try replace hul := hide_ (u_lt hul.out hx)); have f9 := hide_ f25; clear f25; replace hX := hX.trans hx; (try replace hY := hY.trans hx); (try replace hZ := hZ.trans hx); clear hx)
        | ((with_reducible refine at_field ?_); (try refine w_yes _ _ _ rfl rfl rfl ?_); refine w_field Try.stGac _ _ _ rfl rfl rfl (by omega) ?_)
        | ((with_reducible refine at_load ?_); (try refine w_yes _ _ _ rfl rfl rfl ?_); refine w_fload _ rfl rfl rfl f9.out rfl (agg_of (by kernel_rfl)) ?_)
        | (go_at_call 16; refine (refMRead_any hok.out.b.1 (Nat.le_trans hok.out.b.2 (by omega)) (hby.out.ext hX)).mono ?_; rintro e w22 ⟨u10, rfl, hx, ou0⟩; rw [hoM.out] at ou0; rw [hoE.out, hoM.out]; have ou := hide_ ou0.recs; have huw := hide_ ou0.raw; have hul := hide_ (fun k (hk : u10.ownBlock = some k) => ou0.lt hk); have hun := hide_ (hL.out.apart (fun k hk => ou0.new k hk)); clear ou0; replace hL := hide_ (hL.out.ext hx); replace f9 := hide_ (f9.out.ext hx); replace hX := hX.trans hx; (try replace hY := hY.trans hx); (try replace hZ := hZ.trans hx); clear hx)
        | ((with_reducible refine at_alloc ?_); refine w_agalloc Try.agMsg rfl rfl ?_; intro g10 w25 hg10 hxa f10)
        | ((with_reducible refine at_store ?_); refine w_agput Try.agMsg (us := mRow mo u10) _ _ rfl rfl rfl rfl rfl f10 rfl rfl (m_one ou.out.oneC) ?_; intro w26 hm26 f27; have hx := hm26.after hxa (fun i e => e ▸ hg10); clear hm26 f10 hxa hg10; (try replace hL := hide_ (hL.out.ext hx)); (try replace f9 := hide_ (f9.out.ext hx)); (try replace f10 := hide_ (f10.out.ext hx)); (try replace ou := hide_ (ou.out.ext TxR.stays hx)); (try replace hul := hide_ (u_lt hul.out hx)); have f10 := hide_ f27; clear f27; replace hX := hX.trans hx; (try replace hY := hY.trans hx); (try replace hZ := hZ.trans hx); clear hx)
        | ((with_reducible refine at_field ?_); (try refine w_yes _ _ _ rfl rfl rfl ?_); refine w_mfield _ _ _ rfl rfl rfl (by omega) ?_)
        | ((with_reducible refine at_load ?_); (try refine w_yes _ _ _ rfl rfl rfl ?_); refine w_fload _ rfl rfl rfl f10.out rfl (agg_of (by kernel_rfl)) ?_)
        | ((with_reducible refine at_field ?_); (try refine w_yes _ _ _ rfl rfl rfl ?_); refine w_field Try.stGac _ _ _ rfl rfl rfl (by omega) ?_)
        | ((with_reducible refine at_lit ?_); refine w_nnew Try.enBk [] rfl rfl rfl (by simp) rfl (by omega) ?_; intro v58 w58 B hB1 hB2 hxa n58; replace n58 := n58.mono (G := fun k => B ≤ k) (fun k h => h.1); have hs7b := hs7.out.ext hY; have hs6b := (hs6.out.ext hY).ext hxa)
        | ((with_reducible refine at_bi ?_); refine w_napp0 Try.enBk _ _ rfl rfl rfl rfl n58 hs6b hro6.out (by rw [hl6.out]; have := hSl.out; simp; omega) ?_; intro v60 w60 hm60 n60; replace n60 := n60.mono (G := fun k => B ≤ k) (fun k h => h.elim id fun e => Nat.le_trans hB2 e.1); have hB60 := Nat.le_trans hB2 hm60.size; have hxb := hm60.after hxa (fun i e => Nat.le_trans hB1 e); clear n58 hm60 hs6b hxa)
        | ((with_reducible refine at_bi ?_); refine w_napp0 Try.enBk _ _ rfl rfl rfl rfl n60 (hs7b.ext hxb) hro7.out (by rw [List.nil_append, hl6.out, hl7.out]; have := hSl.out; have := hPl.out; omega) ?_; intro v62 w62 hm62 n62; have hx := hm62.after hxb (fun i e => Nat.le_trans hB1 e); have hT := hide_ (show SlS w62 v62 5 rT from by have := n62.slS; rw [List.nil_append, hrT.out] at this; exact this); clear n60 n62 hm62 hB60 hxb hB1 hB2 hs7b; (try replace hL := hide_ (hL.out.ext hx)); (try replace f9 := hide_ (f9.out.ext hx)); (try replace f10 := hide_ (f10.out.ext hx)); (try replace ou := hide_ (ou.out.ext TxR.stays hx)); (try replace hul := hide_ (u_lt hul.out hx)); replace hX := hX.trans hx; (try replace hY := hY.trans hx); (try replace hZ := hZ.trans hx); clear hx)
        | ((with_reducible refine at_bi ?_); refine w_rlen (R := fun _ row d => row = d) (l := rT) Try.enBk.elS _ rfl rfl rfl ⟨_, hT.out, rfl, fun k a b h1 h2 => by rw [h1] at h2; injection h2⟩ ?_)
        | fail) <;> (try simp only [Act.put, List.setIfInBounds_toArray, List.set_cons_zero, List.set_cons_succ]))
      have hZ := Ext.refl w62
      have hTl := hide_ (show rT.length = (S ++ P).length from by rw [← hrT.out, List.length_append, List.length_append, hl6.out, hl7.out])
      have F9 := hide_ f9.out
      have F10 := hide_ f10.out
      have OU := hide_ ou.out
      have LL := hide_ hL.out
      have HUL := hide_ hul.out
      have hX62 := hide_ hX
      have hY62 := hide_ hY
      clear hX hY hZ f9 f10 ou hL hul
      go_loopw [64] (fun i wr2 => ∃ j : Nat, i = .int .i64 j ∧ j ≤ rT.length ∧ Hid (True) ∧ Ext w62 wr2) (fun i _ => rT.length - (RowKit.intOf i).toNat)
      case atStart => exact ⟨0, rfl, Nat.zero_le _, hide_ (trivial), Ext.refl _⟩
      case round =>
      obtain ⟨j, rfl, hj, hin, hZ⟩ := hrel
      have hX := hX62.out.trans hZ
      have hY := hY62.out.trans hZ
      have f9 := hide_ (F9.out.ext hZ)
      have f10 := hide_ (F10.out.ext hZ)
      have ou := hide_ (OU.out.ext TxR.stays hZ)
      have hL := hide_ (LL.out.ext hZ)
      have hul := hide_ (u_lt HUL.out hZ)
      by_cases hgj : rT.length ≤ j
      rotate_left
      · have hltj : j < rT.length := by omega
        have t8 : decide (j < rT.length) = true := by simpa using hltj
        obtain ⟨b, hb0⟩ : ∃ b, (S ++ P)[j]? = some b := ⟨_, List.getElem?_eq_getElem (by have := hTl.out; omega)⟩
        obtain ⟨u, hru, hub0, hrb0⟩ := hTR.out j _ b (List.getElem?_eq_getElem hltj) hb0
        have hbj := hide_ hb0
        have hrow := hide_ (show rT[j]? = some (bRw b u) from by rw [List.getElem?_eq_getElem hltj, hru])
        have hub := hide_ (hub0.ext TxR.stays hY62.out)
        have hrb := hide_ hrb0
        have h1u := hide_ (blk_one (a := b.slot) (b := b.miner) (c := b.var) (d := b.parent) hub0.oneC)
        have hlj := hide_ hltj
        have hjb : j ≤ 200 := by have h1 := hTl.out; have h2 := hSl.out; have h3 := hPl.out; rw [List.length_append] at h1; omega
        clear hgj hltj hb0 hru hub0 hrb0 F9 F10 OU LL HUL hX62 hY62 hj
        go_wp2_with ((first
          | go_big_skip
          | (refine w_sidx Try.enBk.elS _ _ j rfl rfl rfl rfl hT.out hZ hrow.out ?_; intro pa hrow1; have hrow := hide_ hrow1; clear hrow1)
          | ((with_reducible refine at_load ?_); refine w_pload Try.stBlk _ rfl rfl rfl hrow.out rfl ?_; clear hrow)
          | ((with_reducible refine at_alloc ?_); refine w_alloc Try.stBlk rfl rfl ?_; intro g14 w70 hg70 hxa f14)
          | ((with_reducible refine at_store ?_); refine w_astore Try.stBlk _ _ (us := bRw b u) rfl rfl rfl rfl rfl f14 rfl rfl h1u.out ?_; intro w71 hm71 f72; have hx := hm71.after hxa (fun i e => e ▸ hg70); clear hm71 hxa hg70 f14; (try replace hL := hide_ (hL.out.ext hx)); (try replace f9 := hide_ (f9.out.ext hx)); (try replace f10 := hide_ (f10.out.ext hx)); (try replace ou := hide_ (ou.out.ext TxR.stays hx)); (try replace hul := hide_ (u_lt hul.out hx)); have f14 := hide_ (show Fs w71 g14 (bRw b u) from f72); clear f72; replace hX := hX.trans hx; (try replace hY := hY.trans hx); (try replace hZ := hZ.trans hx); clear hx)
          | fail) <;> (try simp only [Act.put, List.setIfInBounds_toArray, List.set_cons_zero, List.set_cons_succ]))
        refine wp_region_phx (by kernel_rfl) ?_; intro wd hxd; have F14 := f14.out.ext hxd; have F10 := f10.out.ext hxd
        refine Ph.rest 0 16 (by kernel_rfl) ?_
        refine LinL.step (s := (.val (.bool false))) [(12, none)] rfl (by kernel_rfl) (op_out 12 (.bool false) rfl (.inl rfl) rfl) ?_
        refine LinL.step (s := (.val (.bool false))) [(68, some 0)] rfl (by kernel_rfl) (op_copy 68 0 (.val (.bool false)) rfl (.inl rfl) rfl) ?_
        refine LinL.step (s := .val undef) [(14, none), (69, some 0)] rfl (by kernel_rfl) (op_no (reads := [(14, none)]) 1 69 0 true rfl rfl rfl) ?_
        refine LinL.step (s := .val undef) [(70, some 0), (69, some 1)] rfl (by kernel_rfl) (op_no (reads := [(70, some 0)]) 1 69 1 true rfl rfl rfl) ?_
        refine LinL.step (s := .val undef) [(10, none), (69, some 2)] rfl (by kernel_rfl) (op_no (reads := [(10, none)]) 1 69 2 true rfl rfl rfl) ?_
        refine LinL.step (s := .val undef) [(72, some 0), (69, some 3)] rfl (by kernel_rfl) (op_no (reads := [(72, some 0)]) 1 69 3 true rfl rfl rfl) ?_
        refine LinL.step (s := .val undef) [(73, some 0), (69, some 4)] rfl (by kernel_rfl) (op_no (reads := [(73, some 0)]) 1 69 4 true rfl rfl rfl) ?_
        refine LinL.step (s := .val undef) [(71, some 3), (74, some 0), (69, some 5)] rfl (by kernel_rfl) (op_no (reads := [(71, some 3), (74, some 0)]) 1 69 5 true rfl rfl rfl) ?_
        refine LinL.step (s := (.val (.bool false))) [(69, some 6), (75, some 0)] rfl (by kernel_rfl) (op_runs rfl fun σ w' hx hg => ⟨_, runs_pick_f (ρ := σ.eval) (w := w') (.tmp 69) (.tmp 75) (.const (.bool false)) rfl hg.1 rfl, rfl⟩) ?_
        refine LinL.step (s := (.val (.bool false))) [(76, some 0)] rfl (by kernel_rfl) (op_copy 76 0 (.val (.bool false)) rfl (.inl rfl) rfl) ?_
        refine LinL.step (s := .val undef) [(14, none), (77, some 0)] rfl (by kernel_rfl) (op_no (reads := [(14, none)]) 9 77 0 true rfl rfl rfl) ?_
        refine LinL.step (s := .val undef) [(10, none), (77, some 1)] rfl (by kernel_rfl) (op_no (reads := [(10, none)]) 9 77 1 true rfl rfl rfl) ?_
        refine LinL.step (s := .val undef) [(79, some 0), (77, some 2)] rfl (by kernel_rfl) (op_no (reads := [(79, some 0)]) 9 77 2 true rfl rfl rfl) ?_
        refine LinL.step (s := .val undef) [(78, some 2), (80, some 0), (77, some 3)] rfl (by kernel_rfl) (op_no (reads := [(78, some 2), (80, some 0)]) 9 77 3 true rfl rfl rfl) ?_
        refine LinL.step (s := .val undef) [(81, some 0), (77, some 4)] rfl (by kernel_rfl) (op_no (reads := [(81, some 0)]) 9 77 4 true rfl rfl rfl) ?_
        refine LinL.step (s := (.val (.bool false))) [(77, some 5), (82, some 0)] rfl (by kernel_rfl) (op_runs rfl fun σ w' hx hg => ⟨_, runs_pick_f (ρ := σ.eval) (w := w') (.tmp 77) (.tmp 82) (.const (.bool false)) rfl hg.1 rfl, rfl⟩) ?_
        intro wN hxN
        simp only [Fin', List.reverse_cons, List.reverse_nil, List.nil_append, List.cons_append, List.drop_zero, List.take_succ_cons, List.take_zero]
        simp only [Act.put, List.setIfInBounds_toArray, List.set_cons_zero, List.set_cons_succ]
        have hx := hxd.trans hxN
        (try replace hL := hide_ (hL.out.ext hx)); (try replace f9 := hide_ (f9.out.ext hx)); (try replace f10 := hide_ (f10.out.ext hx)); (try replace ou := hide_ (ou.out.ext TxR.stays hx)); (try replace hul := hide_ (u_lt hul.out hx))
        replace hX := hX.trans hx; (try replace hY := hY.trans hx); (try replace hZ := hZ.trans hx); clear hx
        clear hxd hxN F14 F10
        have hin2 := hin
        go_wp2
        go_roundw
        case rel => exact ⟨j + 1, by go_num, hlj.out, hin2, hZ⟩
        case measure => have := hlj.out; simp [RowKit.intOf]; omega
      obtain rfl : j = rT.length := by omega
      have t8 : decide (rT.length < rT.length) = false := by simp
      clear hgj F9 F10 OU LL HUL hX62 hY62 hj
      have hO := hide_ (OneB.say_no hI.out.1 hrm.out)
      have hG2 := hide_ (GaD.say_bad (g := g) (x := d.b))
      have c1 : True := trivial
      have d1 : True := trivial
      have hOk := hide_ (hI.out.2.2.2.2.2.2.say (x := d.b) hok.out.b.1)
      clear hs6 hs7 hl6 hl7 hro6 hro7 hTR hTR6 hT hTl hin hZ
      go_wp2_with ((first
        | go_big_skip
        | (have _t := c1; (try refine w_yes _ _ _ rfl rfl rfl ?_); refine w_empt Try.elB rfl rfl ?_; intro ge we hge hx oe; replace oe := hide_ oe; clear c1 _t hge; (try replace hL := hide_ (hL.out.ext hx)); (try replace f9 := hide_ (f9.out.ext hx)); (try replace f10 := hide_ (f10.out.ext hx)); (try replace ou := hide_ (ou.out.ext TxR.stays hx)); (try replace hul := hide_ (u_lt hul.out hx)); replace hX := hX.trans hx; (try replace hY := hY.trans hx); (try replace hZ := hZ.trans hx); clear hx)
        | (have _t := d1; (try refine w_yes _ _ _ rfl rfl rfl ?_); refine w_appE Try.elB _ _ rfl rfl rfl rfl oe.out (ys := u8s d.b) (hby.out.ext hX) (u8s_one _) (by rw [u8s_length]; have := hok.out.b.2; omega) ?_; intro v89 wf hx on; have v89b := hide_ (show Byt wf v89 d.b from Sl.of_own on); clear d1 _t on oe; (try replace hL := hide_ (hL.out.ext hx)); (try replace f9 := hide_ (f9.out.ext hx)); (try replace f10 := hide_ (f10.out.ext hx)); (try replace ou := hide_ (ou.out.ext TxR.stays hx)); (try replace hul := hide_ (u_lt hul.out hx)); replace hX := hX.trans hx; (try replace hY := hY.trans hx); (try replace hZ := hZ.trans hx); clear hx)
        | (go_at_call 12; refine (Lw.say hL.out hok.out.b.1 (Nat.le_trans hok.out.b.2 (by omega)) v89b.out hfew.out).mono ?_; rintro e w80 ⟨rfl, hL', hN⟩; clear v89b; have hM := hL.out.maps; replace f9 := hide_ (f9.out.mapmod hN hM); replace f10 := hide_ (f10.out.mapmod hN hM); replace ou := hide_ (recsT_mapmod ou.out hN hM); replace hul := hide_ (fun k hk => Nat.lt_of_lt_of_le (hul.out k hk) hN.size); replace hX := hN.after hX hgW.out; replace hL := hide_ hL'; clear hL' hN hM hY)
        | ((with_reducible refine at_field ?_); (try refine w_yes _ _ _ rfl rfl rfl ?_); refine w_mfield _ _ _ rfl rfl rfl (by omega) ?_)
        | ((with_reducible refine at_load ?_); (try refine w_yes _ _ _ rfl rfl rfl ?_); refine w_fload _ rfl rfl rfl f9.out rfl (agg_of (by kernel_rfl)) ?_)
        | ((with_reducible refine at_field ?_); (try refine w_yes _ _ _ rfl rfl rfl ?_); refine w_field Try.stGac _ _ _ rfl rfl rfl (by omega) ?_)
        | fail) <;> (try simp only [Act.put, List.setIfInBounds_toArray, List.set_cons_zero, List.set_cons_succ]))
      go_roundw
      case rel => exact ⟨k + 1, g.say d.b, S, P, by go_num, hlt'.out, hL, hide_ ⟨hO.out, hG2.1.trans hI.out.2.1, by rw [hG2.2.1]; have := hI.out.2.2.1; simp; omega, by have := hG2.2.2; have := hI.out.2.2.2.1; omega, by have := hI.out.2.2.2.2.1; omega, by have := hI.out.2.2.2.2.2.1; omega, hOk.out⟩, hn6, hn7, hX⟩
      case measure => have := hlt'.out; simp [RowKit.intOf]; omega
    · have t3 : (d.k == 0) = false := by simpa using hk0
      clear hk0
      obtain ⟨⟨gn, q⟩, hps0⟩ : ∃ r, g.pass d.b = r := ⟨_, rfl⟩
      have c1 : True := trivial
      have d1 : True := trivial
      have e : g = gn := by have := OneB.pass_no (g := g) (x := d.b) (.inr hrm.out); rw [hps0] at this; exact this.symm
      subst e
      have hps := hide_ hps0
      clear hs6 hs7 hl6 hl7 hro6 hro7 hTR hTR6 hrT
      clear hps0
      cases q
      all_goals
        go_wp2_with ((first
          | go_big_skip
          | ((with_reducible refine at_idx ?_); refine w_gacidx Try.elGac _ _ k rfl rfl rfl rfl ha.out hX hd.out ?_; intro pa ud hrow0 hby0 hok0; have hrow := hide_ hrow0; have hby := hide_ hby0; have hok := hide_ hok0; have hud := hide_ hby0.one'; clear hrow0 hby0 hok0)
          | ((with_reducible refine at_load ?_); refine w_pload Try.stGac _ rfl rfl rfl hrow.out rfl ?_; clear hrow)
          | ((with_reducible refine at_alloc ?_); refine w_alloc Try.stGac rfl rfl ?_; intro g9 w23 hg9 hxa f9)
          | ((with_reducible refine at_store ?_); refine w_astore Try.stGac _ _ (us := [.int .i64 d.k, ud]) rfl rfl rfl rfl rfl f9 rfl rfl (by intro y hy; simp at hy; rcases hy with rfl | rfl; rfl; exact hud.out) ?_; intro w24 hm24 f25; have hx := hm24.after hxa (fun i e => e ▸ hg9); clear hm24 hxa hg9 f9; (try replace hL := hide_ (hL.out.ext hx)); (try replace f9 := hide_ (f9.out.ext hx)); (try replace f10 := hide_ (f10.out.ext hx)); (try replace ou := hide_ (ou.out.ext TxR.stays hx)); (try replace hul := hide_ (u_lt hul.out hx)); have f9 := hide_ f25; clear f25; replace hX := hX.trans hx; (try replace hY := hY.trans hx); (try replace hZ := hZ.trans hx); clear hx)
          | ((with_reducible refine at_field ?_); (try refine w_yes _ _ _ rfl rfl rfl ?_); refine w_field Try.stGac _ _ _ rfl rfl rfl (by omega) ?_)
          | ((with_reducible refine at_load ?_); (try refine w_yes _ _ _ rfl rfl rfl ?_); refine w_fload _ rfl rfl rfl f9.out rfl (agg_of (by kernel_rfl)) ?_)
          | (go_at_call 16; refine (refMRead_any hok.out.b.1 (Nat.le_trans hok.out.b.2 (by omega)) (hby.out.ext hX)).mono ?_; rintro e w22 ⟨u10, rfl, hx, ou0⟩; rw [hoM.out] at ou0; rw [hoE.out, hoM.out]; have ou := hide_ ou0.recs; have huw := hide_ ou0.raw; have hul := hide_ (fun k (hk : u10.ownBlock = some k) => ou0.lt hk); have hun := hide_ (hL.out.apart (fun k hk => ou0.new k hk)); clear ou0; replace hL := hide_ (hL.out.ext hx); replace f9 := hide_ (f9.out.ext hx); replace hX := hX.trans hx; (try replace hY := hY.trans hx); (try replace hZ := hZ.trans hx); clear hx)
          | ((with_reducible refine at_alloc ?_); refine w_agalloc Try.agMsg rfl rfl ?_; intro g10 w25 hg10 hxa f10)
          | ((with_reducible refine at_store ?_); refine w_agput Try.agMsg (us := mRow mo u10) _ _ rfl rfl rfl rfl rfl f10 rfl rfl (m_one ou.out.oneC) ?_; intro w26 hm26 f27; have hx := hm26.after hxa (fun i e => e ▸ hg10); clear hm26 f10 hxa hg10; (try replace hL := hide_ (hL.out.ext hx)); (try replace f9 := hide_ (f9.out.ext hx)); (try replace f10 := hide_ (f10.out.ext hx)); (try replace ou := hide_ (ou.out.ext TxR.stays hx)); (try replace hul := hide_ (u_lt hul.out hx)); have f10 := hide_ f27; clear f27; replace hX := hX.trans hx; (try replace hY := hY.trans hx); (try replace hZ := hZ.trans hx); clear hx)
          | ((with_reducible refine at_field ?_); (try refine w_yes _ _ _ rfl rfl rfl ?_); refine w_mfield _ _ _ rfl rfl rfl (by omega) ?_)
          | ((with_reducible refine at_load ?_); (try refine w_yes _ _ _ rfl rfl rfl ?_); refine w_fload _ rfl rfl rfl f10.out rfl (agg_of (by kernel_rfl)) ?_)
          | ((with_reducible refine at_field ?_); (try refine w_yes _ _ _ rfl rfl rfl ?_); refine w_field Try.stGac _ _ _ rfl rfl rfl (by omega) ?_)
          | (have _t := c1; (try refine w_yes _ _ _ rfl rfl rfl ?_); refine w_empt Try.elB rfl rfl ?_; intro ge we hge hx oe; replace oe := hide_ oe; clear c1 _t hge; (try replace hL := hide_ (hL.out.ext hx)); (try replace f9 := hide_ (f9.out.ext hx)); (try replace f10 := hide_ (f10.out.ext hx)); (try replace ou := hide_ (ou.out.ext TxR.stays hx)); (try replace hul := hide_ (u_lt hul.out hx)); replace hX := hX.trans hx; (try replace hY := hY.trans hx); (try replace hZ := hZ.trans hx); clear hx)
          | (have _t := d1; (try refine w_yes _ _ _ rfl rfl rfl ?_); refine w_appE Try.elB _ _ rfl rfl rfl rfl oe.out (ys := u8s d.b) (hby.out.ext hX) (u8s_one _) (by rw [u8s_length]; have := hok.out.b.2; omega) ?_; intro v89 wf hx on; have v89b := hide_ (show Byt wf v89 d.b from Sl.of_own on); clear d1 _t on oe; (try replace hL := hide_ (hL.out.ext hx)); (try replace f9 := hide_ (f9.out.ext hx)); (try replace f10 := hide_ (f10.out.ext hx)); (try replace ou := hide_ (ou.out.ext TxR.stays hx)); (try replace hul := hide_ (u_lt hul.out hx)); replace hX := hX.trans hx; (try replace hY := hY.trans hx); (try replace hZ := hZ.trans hx); clear hx)
          | (go_at_call 10; refine (Lw.pass hL.out hok.out.b.1 (Nat.le_trans hok.out.b.2 (by omega)) v89b.out hfew.out hps.out).mono ?_; rintro e w80 ⟨rfl, hL', hN⟩; clear v89b; have hM := hL.out.maps; replace f9 := hide_ (f9.out.mapmod hN hM); replace f10 := hide_ (f10.out.mapmod hN hM); replace ou := hide_ (recsT_mapmod ou.out hN hM); replace hul := hide_ (fun k hk => Nat.lt_of_lt_of_le (hul.out k hk) hN.size); replace hX := hN.after hX hgW.out; replace hL := hide_ hL'; clear hL' hN hM hY)
          | fail) <;> (try simp only [Act.put, List.setIfInBounds_toArray, List.set_cons_zero, List.set_cons_succ]))
        go_roundw
        case rel => exact ⟨k + 1, g, S, P, by go_num, hlt'.out, hL, hide_ ⟨hI.out.1, hI.out.2.1, by have := hI.out.2.2.1; omega, by have := hI.out.2.2.2.1; omega, by have := hI.out.2.2.2.2.1; omega, by have := hI.out.2.2.2.2.2.1; omega, hI.out.2.2.2.2.2.2⟩, hn6, hn7, hX⟩
        case measure => have := hlt'.out; simp [RowKit.intOf]; omega

set_option maxRecDepth 100000 in
theorem gateOnce_lifted (os : Os) (started : os.Started) (H : Type) (enc : TypeId × Value → H) :
    ReturnsInHanded {} Try.checked os 5 .any (Rows.gateOnceSpec.pre6 enc Try.prog Try.f5 Rows.gateOnceRow.domain false) (Rows.gateOnceSpec.post enc Try.prog Try.f5 false true false false) := by
  refine law_lifted (s := Rows.gateOnceSpec) (conds := Rows.gateOnceRow.domain) Try.func5 (by kernel_rfl) rfl (fun H ds h => by
      rw [show Try.f5.params.size = 2 from rfl] at h
      match ds, h with
      | [d0, d1], _ => rfl) rfl rfl (by decide +kernel) os started H enc
    (ChangeSpec.witness6 (enc := enc) (C := Try.checked) false ⟨#[], #[.slice none 0 0, .slice none 0 0], []⟩ 8 (by kernel_rfl) (by kernel_rfl) (by kernel_rfl) (by kernel_rfl)) ?_
  intro W base args ds p hval hA hsz _
  have hp : Try.f5.params.toList = [24, 28] := rfl
  rw [hp] at hA hsz
  obtain ⟨v0, v1, d0, d1, p0, p1, rfl, rfl, rfl, h0, h1⟩ := trodAll_two hA
  obtain ⟨l0, a0, b0, c0⟩ := arg_ints hsz (j := 0) rfl rfl (hval 0 24 v0 rfl rfl) h0
  obtain ⟨l1, k1⟩ := arg_Gacs hsz (j := 1) rfl rfl (hval 1 28 v1 rfl rfl) h1
  exact gateOnce_law v0 l0 v1 l1 W a0 k1

theorem gateOnce_holds : Rows.GateOnceSaid :=
  OpenClaim.holds_of_wide 5 Try.f5 rfl rfl rfl rfl rfl rfl rfl ⟨rfl, rfl, rfl, rfl, rfl⟩ rfl rfl rfl rfl rfl (by kernel_rfl) Try.func5 (by kernel_rfl)
    (of_decide_eq_true (by kernel_rfl)) (by unfold Func.isWrapper; first | (rw [if_pos (by decide +kernel)]; kernel_rfl) | (rw [if_neg (by decide +kernel)]; exact ⟨rfl, rfl⟩))
    (fun os started H enc _ => gateOnce_lifted os started H enc)
#print axioms gateOnce_holds

end Go.Proofs.Ytgbhbifdfcfamaa
