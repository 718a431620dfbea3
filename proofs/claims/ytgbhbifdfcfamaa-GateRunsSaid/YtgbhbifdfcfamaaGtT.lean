/- The document's gate: whether something passes. -/
import Derived.Test.YtgbhbifdfcfamaaGtS
import Derived.Test.YtgbhbifdfcfamaaRowSt
import Derived.Deep.Cut
namespace Go.Proofs.Ytgbhbifdfcfamaa
set_option maxRecDepth 100000
open Go.RowKit Go.ChangeShapes Go.WideShapes Go.ChangeAt

theorem bsameRG {w : World} {u u2 : Value} {b b2 : BlkD} (h1 : Recs 2 TxR w u b.txs) (h2 : Recs 2 TxR w u2 b2.txs) {q : Bool} (h : decide (b = b2) = q) : Calls Try.prog 18 #[.agg #[.int .i64 b.slot, .int .i64 b.miner, .int .i64 b.var, .int .i64 b.parent, u], .agg (bRw b2 u2).toArray] w fun e w' => ∃ v', e = .returned v' ∧ Ext w w' ∧ Sp.p (.val (.bool q)) v' w' := by
  refine (refBSame_any h1 h2).mono ?_
  rintro e w' ⟨rfl, hx⟩
  refine ⟨_, rfl, hx, ?_⟩
  have : b.same b2 = q := by rw [← h, Bool.eq_iff_iff, BlkD.same_iff, decide_eq_true_iff]
  rw [this]; rfl
theorem w_bfieldM {ops : Array Oper} {rest : List Oper} {o : Oper} {a : Act} {Q : Exit → Act → World → Prop} {w : World} (x : Operand) (g i : Nat) (hgd : o.guard = none) (ho : o.op = .fieldAddr 46 x i) (hx : a.eval x = .pointer (some ⟨g, 8, none⟩)) (hi : i < 5)
    (k : wpList Try.prog ops Q rest (a.put o.dst (.pointer (some ⟨g, 8 + i, none⟩))) w) : wpList Try.prog ops Q (o :: rest) a w := by
  refine w_pfield Try.stBlk x i hgd ho hx hi ?_
  rw [addr_add_off]; exact k
theorem notin_succ {l : List (List Nat)} {k : Nat} {x y : List Nat} (h : x ∉ l.take k) (hd : l[k]? = some y) (hn : ¬ y = x) : x ∉ l.take (k + 1) := by
  rw [List.take_add_one, hd]
  simp only [Option.toList_some, List.mem_append, List.mem_singleton, not_or]
  exact ⟨h, fun e => hn e.symm⟩
set_option maxRecDepth 100000 in
set_option maxHeartbeats 3200000 in
theorem refPass_any {w : World} {vb vs vk vx : Value} {g : GaD} {x : List Nat} (hg0 : RG w vb vs vk g) (hx0 : ∀ c ∈ x, c < 256) (hl0 : x.length ≤ 140737488351232) (hv0 : Byt w vx x) (hfew0 : g.said.length ≤ 1000 ∧ g.kn.length ≤ 1000) :
    Calls Try.prog 14 #[.agg #[vb, vs, vk], vx] w fun e w' => ∃ vk', e = .returned (.tuple #[.agg #[vb, vs, vk'], .bool (g.pass x).2]) ∧ RG w' vb vs vk' (g.pass x).1 ∧ Ext w w' := by
  refine calls_keep ?_
  have hg := hide_ hg0
  have hx256 := hide_ hx0
  have hlen := hide_ hl0
  have hv := hide_ hv0
  have hfew := hide_ hfew0
  have hX := Ext.refl w
  have h1s := hide_ (show vb.oneCell' = true ∧ vs.oneCell' = true ∧ vk.oneCell' = true from ⟨hg0.bad.one', hg0.said.oneC, hg0.kn.oneC⟩)
  cases hrd0 : rdMsg x with
  | none =>
    have hrd := hide_ hrd0
    have hfin := hide_ (GaD.pass_none (g := g) hrd0)
    clear hg0 hx0 hl0 hv0 hfew0 hrd0
    go_enter Try.func14, Try.ntmps14
    go_wp2_with ((first
      | go_big_skip
      | ((with_reducible refine at_box ?_); refine w_box _ [vb, vs, vk] rfl rfl rfl rfl ?_; intro g2 w1 hg2 hx f2; replace hg2 := Nat.le_trans hX.size hg2; replace hX := hX.trans hx; clear hx)
      | ((with_reducible refine at_alloc ?_); refine w_alloc Try.stRG rfl rfl ?_; intro g4 wA hg4 hx f4; have h24 := hide_ (show ¬ g2 = g4 from fun e => by have := f2.lt; omega); replace hg4 := hide_ (Nat.le_trans hX.size hg4); replace f2 := f2.ext hx; have h2A := hide_ f2.lt; have h4A := hide_ f4.lt; replace hX := hX.trans hx; have hXA := hide_ hX; clear hx)
      | (go_at_call 16; refine (refMRead_any hx256.out (Nat.le_trans hlen.out (by omega)) (hv.out.ext hX)).mono ?_; rintro e w22 ⟨u, rfl, hx, ou0⟩; rw [hrd.out] at ou0 ⊢; rw [show omE none = 121 from rfl, show mOr none = MsgD.zero from rfl]; have ou := hide_ (show OwnT _ w22 u MsgD.zero.bk.txs from ou0); clear ou0; replace f2 := f2.ext hx; replace f4 := f4.ext hx; replace hX := hX.trans hx; clear hx)
      | ((with_reducible refine at_alloc ?_); refine w_agalloc Try.agMsg rfl rfl ?_; intro g6 w23 hg6 hx f6; have n6 := hide_ (fun k hk (e : k = g6) => (by have := ou.out.lt (k := k) hk; omega : False)); have h26 := hide_ (show ¬ g2 = g6 from fun e => by have := f2.lt; omega); have h46 := hide_ (show ¬ g4 = g6 from fun e => by have := f4.lt; omega); replace hg6 := hide_ (Nat.le_trans hX.size hg6); replace ou := hide_ (ou.out.ext hx); replace f2 := f2.ext hx; replace f4 := f4.ext hx; replace hX := hX.trans hx; clear hx)
      | ((with_reducible refine at_store ?_); refine w_agput Try.agMsg (us := mRow MsgD.zero u) _ _ rfl rfl rfl rfl rfl f6 rfl rfl (m_one ou.out.recs.one') ?_; intro w24 hm24 f25; replace f6 := f25; replace ou := hide_ (ou.out.mod hm24 (fun k hk => n6.out k hk)).recs; replace f2 := f2.mod hm24 h26.out; replace f4 := f4.mod hm24 h46.out; replace hX := hm24.after hX (fun i e => e ▸ hg6.out); clear hm24 f25 n6)
      | ((with_reducible refine at_load ?_); refine w_aload Try.stRG (cs := [vb, vs, vk]) _ rfl rfl rfl f2 rfl ?_)
      | ((with_reducible refine at_store ?_); refine w_astore Try.stRG _ _ (us := [vb, vs, vk]) rfl rfl rfl rfl rfl f4 rfl rfl (by intro y hy; simp at hy; rcases hy with rfl | rfl | rfl; exact h1s.out.1; exact h1s.out.2.1; exact h1s.out.2.2) ?_; intro w29 hm29 f29; have hXF := hide_ (hm29.after hX (fun i e => e ▸ hg4.out)); clear hm29 f4)
      | fail) <;> (try simp only [Act.put, List.setIfInBounds_toArray, List.set_cons_zero, List.set_cons_succ]))
    exact bodyPost_ret (ret_two Try.stRG rfl rfl rfl f29 rfl) rfl (Keep.intro ⟨vk, by rw [hfin.out]; rfl, by rw [hfin.out]; exact ⟨(hg.out.ext hXF.out).bad, (hg.out.ext hXF.out).said, (hg.out.ext hXF.out).kn⟩, hXF.out⟩)
  | some m =>
    have hrd := hide_ hrd0
    have hm0 := GaD.rd_right hx0 hrd0
    have hm := hide_ hm0
    have hps := hide_ (GaD.pass_some (g := g) hrd0)
    have hpar := hide_ (show I64 m.bk.parent from hm0.rawG.2)
    have hfnd := hide_ (hg0.fnd m.bk.name)
    have hsm := hg0.said.len_le
    unfold maxLen at hsm
    have hkn5 := hide_ hg0.kn
    clear hg0 hx0 hl0 hv0 hfew0 hrd0 hm0
    go_enter Try.func14, Try.ntmps14
    go_wp2_with ((first
      | go_big_skip
      | ((with_reducible refine at_box ?_); refine w_box _ [vb, vs, vk] rfl rfl rfl rfl ?_; intro g2 w1 hg2 hx f2; replace hg2 := Nat.le_trans hX.size hg2; replace hX := hX.trans hx; clear hx)
      | ((with_reducible refine at_alloc ?_); refine w_alloc Try.stRG rfl rfl ?_; intro g4 wA hg4 hx f4; have h24 := hide_ (show ¬ g2 = g4 from fun e => by have := f2.lt; omega); replace hg4 := hide_ (Nat.le_trans hX.size hg4); replace f2 := f2.ext hx; have h2A := hide_ f2.lt; have h4A := hide_ f4.lt; replace hX := hX.trans hx; have hXA := hide_ hX; clear hx)
      | (go_at_call 16; refine (refMRead_any hx256.out (Nat.le_trans hlen.out (by omega)) (hv.out.ext hX)).mono ?_; rintro e w22 ⟨u, rfl, hx, ou0⟩; rw [hrd.out] at ou0 ⊢; rw [show omE (some m) = 0 from rfl, show mOr (some m) = m from rfl]; have ou := hide_ (show OwnT _ w22 u m.bk.txs from ou0); clear ou0; replace f2 := f2.ext hx; replace f4 := f4.ext hx; replace hX := hX.trans hx; clear hx)
      | ((with_reducible refine at_alloc ?_); refine w_agalloc Try.agMsg rfl rfl ?_; intro g6 w23 hg6 hx f6; have n6 := hide_ (fun k hk (e : k = g6) => (by have := ou.out.lt (k := k) hk; omega : False)); have h26 := hide_ (show ¬ g2 = g6 from fun e => by have := f2.lt; omega); have h46 := hide_ (show ¬ g4 = g6 from fun e => by have := f4.lt; omega); replace hg6 := hide_ (Nat.le_trans hX.size hg6); replace ou := hide_ (ou.out.ext hx); replace f2 := f2.ext hx; replace f4 := f4.ext hx; replace hX := hX.trans hx; clear hx)
      | ((with_reducible refine at_store ?_); refine w_agput Try.agMsg (us := mRow m u) _ _ rfl rfl rfl rfl rfl f6 rfl rfl (m_one ou.out.recs.one') ?_; intro w24 hm24 f25; replace f6 := f25; replace ou := hide_ (ou.out.mod hm24 (fun k hk => n6.out k hk)).recs; replace f2 := f2.mod hm24 h26.out; replace f4 := f4.mod hm24 h46.out; replace hX := hm24.after hX (fun i e => e ▸ hg6.out); clear hm24 f25 n6)
      | ((with_reducible refine at_field ?_); (try refine w_yes _ _ _ rfl rfl rfl ?_); refine w_field Try.stRG _ _ _ rfl rfl rfl (by omega) ?_)
      | ((with_reducible refine at_load ?_); (try refine w_yes _ _ _ rfl rfl rfl ?_); refine w_fload _ rfl rfl rfl f2 rfl (agg_of (by kernel_rfl)) ?_)
      | ((with_reducible refine at_bi ?_); (try refine w_yes _ _ _ rfl rfl rfl ?_); refine w_rlen Try.elBBS _ rfl rfl rfl ((hg.out.ext hX).said) ?_)
      | fail) <;> (try simp only [Act.put, List.setIfInBounds_toArray, List.set_cons_zero, List.set_cons_succ]))
    have F2 := hide_ f2
    have F4 := hide_ f4
    have F6 := hide_ f6
    have OU := hide_ ou.out
    have hX24 := hide_ hX
    clear hX f2 f4 f6 ou hXA h2A h4A
    go_loopw [23] (fun i wr => ∃ k : Nat, i = .int .i64 k ∧ k ≤ g.said.length ∧ Hid (x ∉ g.said.take k) ∧ Ext w24 wr) (fun i _ => g.said.length - (RowKit.intOf i).toNat)
    case atStart => exact ⟨0, rfl, Nat.zero_le _, hide_ (by simp), Ext.refl _⟩
    case round =>
    obtain ⟨k, rfl, hk, hnt, hX4⟩ := hrel
    have hXw := hide_ (hX24.out.trans hX4)
    by_cases hge : g.said.length ≤ k
    rotate_left
    · have hlt : k < g.said.length := by omega
      have t2 : decide (k < g.said.length) = true := by simpa using hlt
      obtain ⟨y, hdy0⟩ : ∃ y, g.said[k]? = some y := ⟨_, List.getElem?_eq_getElem hlt⟩
      have hdy := hide_ hdy0
      have hy256 : ∀ c ∈ y, c < 256 := by
        obtain ⟨rows, h1, h2, h3⟩ := hg.out.said
        exact (h3 k _ y (List.getElem?_eq_getElem (by omega)) hdy0).2.1
      have hlt' := hide_ hlt
      have hkb : k ≤ 1000 := by have := hfew.out.1; omega
      obtain ⟨s1, hs1⟩ : ∃ s, s = strN y := ⟨_, rfl⟩
      obtain ⟨s2, hs2⟩ : ∃ s, s = strN x := ⟨_, rfl⟩
      have es1 := hide_ hs1
      have es2 := hide_ hs2
      by_cases hyx : y = x
      · have t : (s1.toList == s2.toList) = true := by rw [hs1, hs2, hyx]; simp
        have hin : x ∈ g.said := by rw [← hyx]; exact List.mem_of_getElem? hdy0
        have hfin := hide_ (show g.pass x = (g, true) from by rw [hps.out, if_pos hin])
        have f2 := F2.out.ext hX4
        have f4 := F4.out.ext hX4
        have hX := hXw.out
        clear hge hlt hdy0 hy256 hs1 hs2 hyx hin hnt
        go_wp2_with ((first
          | go_big_skip
          | ((with_reducible refine at_idx ?_); (try refine w_yes _ _ _ rfl rfl rfl ?_); refine w_byidx _ _ k rfl rfl rfl rfl hg.out.said hXw.out hdy.out ?_; intro pa uy hrow0 hby0; have hrow := hide_ hrow0; have hby := hide_ hby0; clear hrow0 hby0)
          | ((with_reducible refine at_load ?_); refine w_cload _ rfl rfl rfl hrow.out (agg_of (by kernel_rfl)) ?_)
          | ((with_reducible refine at_conv ?_); refine w_str _ rfl rfl (v := uy) rfl (hby.out.ext hXw.out) ?_; rw [← es1.out])
          | ((with_reducible refine at_conv ?_); refine w_str _ rfl rfl (v := vx) rfl (hv.out.ext hXw.out) ?_; rw [← es2.out])
          | ((with_reducible refine at_load ?_); refine w_aload Try.stRG (cs := [vb, vs, vk]) _ rfl rfl rfl f2 rfl ?_)
          | ((with_reducible refine at_store ?_); refine w_astore Try.stRG _ _ (us := [vb, vs, vk]) rfl rfl rfl rfl rfl f4 rfl rfl (by intro y hy; simp at hy; rcases hy with rfl | rfl | rfl; exact h1s.out.1; exact h1s.out.2.1; exact h1s.out.2.2) ?_; intro w29 hm29 f29; have hXF := hide_ (hm29.after hX (fun i e => e ▸ hg4.out)); clear hm29 f4)
          | fail) <;> (try simp only [Act.put, List.setIfInBounds_toArray, List.set_cons_zero, List.set_cons_succ]))
        exact bodyPost_ret (ret_two Try.stRG rfl rfl rfl f29 rfl) rfl (Keep.intro ⟨vk, by rw [hfin.out]; rfl, by rw [hfin.out]; exact ⟨(hg.out.ext hXF.out).bad, (hg.out.ext hXF.out).said, (hg.out.ext hXF.out).kn⟩, hXF.out⟩)
      · have t : (s1.toList == s2.toList) = false := by
          rw [Bool.eq_false_iff]; intro e
          rw [beq_iff_eq, hs1, hs2] at e
          exact hyx (strN_inj hy256 hx256.out (bytes_ext e))
        have hnt2 := hide_ (notin_succ hnt.out hdy0 hyx)
        clear hge hlt hdy0 hy256 hs1 hs2 hyx hnt
        go_wp2_with ((first
          | go_big_skip
          | ((with_reducible refine at_idx ?_); (try refine w_yes _ _ _ rfl rfl rfl ?_); refine w_byidx _ _ k rfl rfl rfl rfl hg.out.said hXw.out hdy.out ?_; intro pa uy hrow0 hby0; have hrow := hide_ hrow0; have hby := hide_ hby0; clear hrow0 hby0)
          | ((with_reducible refine at_load ?_); refine w_cload _ rfl rfl rfl hrow.out (agg_of (by kernel_rfl)) ?_)
          | ((with_reducible refine at_conv ?_); refine w_str _ rfl rfl (v := uy) rfl (hby.out.ext hXw.out) ?_; rw [← es1.out])
          | ((with_reducible refine at_conv ?_); refine w_str _ rfl rfl (v := vx) rfl (hv.out.ext hXw.out) ?_; rw [← es2.out])
          | fail) <;> (try simp only [Act.put, List.setIfInBounds_toArray, List.set_cons_zero, List.set_cons_succ]))
        go_roundw
        case rel => exact ⟨k + 1, by go_num, hlt'.out, hnt2, hX4⟩
        case measure => have := hlt'.out; simp [RowKit.intOf]; omega
    obtain rfl : k = g.said.length := by omega
    have t2 : decide (g.said.length < g.said.length) = false := by simp
    have hni : x ∉ g.said := by have := hnt.out; rwa [List.take_length] at this
    have hps2 := hps.out
    rw [if_neg hni] at hps2
    have f2 := F2.out.ext hX4
    have f4 := F4.out.ext hX4
    have f6 := F6.out.ext hX4
    have ou := hide_ (OU.out.ext TxR.stays hX4)
    have hX := hXw.out
    clear hge hnt hni hps F2 F4 F6 OU hX24 hX4 hXw hk
    by_cases hb : m.fm ∈ g.bad
    rotate_left
    · have hbad := hide_ (decide_eq_false hb)
      have hfin := hide_ (show g.pass x = (g, false) from by rw [hps2, if_neg hb])
      clear hps2 hb
      go_wp2_with ((first
        | go_big_skip
        | ((with_reducible refine at_load ?_); refine w_aload Try.stRG (cs := [vb, vs, vk]) _ rfl rfl rfl f2 rfl ?_)
        | ((with_reducible refine at_field ?_); (try refine w_yes _ _ _ rfl rfl rfl ?_); refine w_mfield _ _ _ rfl rfl rfl (by omega) ?_)
        | ((with_reducible refine at_load ?_); (try refine w_yes _ _ _ rfl rfl rfl ?_); refine w_fload _ rfl rfl rfl f6 rfl (agg_of (by kernel_rfl)) ?_)
        | (go_at_call 15; refine (refIs_any (n := m.fm) (hg.out.ext hX).bad h1s.out.2.1 h1s.out.2.2).mono ?_; rintro e w26 ⟨rfl, hx⟩; rw [hbad.out]; replace f2 := f2.ext hx; replace f4 := f4.ext hx; replace f6 := f6.ext hx; replace ou := hide_ (ou.out.ext TxR.stays hx); replace hX := hX.trans hx; clear hx)
        | ((with_reducible refine at_store ?_); refine w_astore Try.stRG _ _ (us := [vb, vs, vk]) rfl rfl rfl rfl rfl f4 rfl rfl (by intro y hy; simp at hy; rcases hy with rfl | rfl | rfl; exact h1s.out.1; exact h1s.out.2.1; exact h1s.out.2.2) ?_; intro w29 hm29 f29; have hXF := hide_ (hm29.after hX (fun i e => e ▸ hg4.out)); clear hm29 f4)
        | fail) <;> (try simp only [Act.put, List.setIfInBounds_toArray, List.set_cons_zero, List.set_cons_succ]))
      exact bodyPost_ret (ret_two Try.stRG rfl rfl rfl f29 rfl) rfl (Keep.intro ⟨vk, by rw [hfin.out]; rfl, by rw [hfin.out]; exact ⟨(hg.out.ext hXF.out).bad, (hg.out.ext hXF.out).said, (hg.out.ext hXF.out).kn⟩, hXF.out⟩)
    have hbad := hide_ (decide_eq_true hb)
    rw [if_pos hb] at hps2
    by_cases hkd : m.kd = 1
    rotate_left
    · have t1 : (m.kd != 1) = true := by simp [hkd]
      have hfin := hide_ (show g.pass x = (g, true) from by rw [hps2, if_neg hkd])
      clear hps2 hb hkd
      go_wp2_with ((first
        | go_big_skip
        | ((with_reducible refine at_load ?_); refine w_aload Try.stRG (cs := [vb, vs, vk]) _ rfl rfl rfl f2 rfl ?_)
        | ((with_reducible refine at_field ?_); (try refine w_yes _ _ _ rfl rfl rfl ?_); refine w_mfield _ _ _ rfl rfl rfl (by omega) ?_)
        | ((with_reducible refine at_load ?_); (try refine w_yes _ _ _ rfl rfl rfl ?_); refine w_fload _ rfl rfl rfl f6 rfl (agg_of (by kernel_rfl)) ?_)
        | (go_at_call 15; refine (refIs_any (n := m.fm) (hg.out.ext hX).bad h1s.out.2.1 h1s.out.2.2).mono ?_; rintro e w26 ⟨rfl, hx⟩; rw [hbad.out]; replace f2 := f2.ext hx; replace f4 := f4.ext hx; replace f6 := f6.ext hx; replace ou := hide_ (ou.out.ext TxR.stays hx); replace hX := hX.trans hx; clear hx)
        | ((with_reducible refine at_store ?_); refine w_astore Try.stRG _ _ (us := [vb, vs, vk]) rfl rfl rfl rfl rfl f4 rfl rfl (by intro y hy; simp at hy; rcases hy with rfl | rfl | rfl; exact h1s.out.1; exact h1s.out.2.1; exact h1s.out.2.2) ?_; intro w29 hm29 f29; have hXF := hide_ (hm29.after hX (fun i e => e ▸ hg4.out)); clear hm29 f4)
        | fail) <;> (try simp only [Act.put, List.setIfInBounds_toArray, List.set_cons_zero, List.set_cons_succ]))
      exact bodyPost_ret (ret_two Try.stRG rfl rfl rfl f29 rfl) rfl (Keep.intro ⟨vk, by rw [hfin.out]; rfl, by rw [hfin.out]; exact ⟨(hg.out.ext hXF.out).bad, (hg.out.ext hXF.out).said, (hg.out.ext hXF.out).kn⟩, hXF.out⟩)
    have t1 : (m.kd != 1) = false := by simp [hkd]
    rw [if_pos hkd] at hps2
    have hraw := hide_ ((hm.out.bkOk hkd).rawG hpar.out)
    obtain ⟨rows, c, u1, q, hrs0, hl5, hfn0, hq0, hu00, hcb⟩ := hfnd.out
    have hR5 : ∀ (k : Nat) (row : List Value) (d : BlkD), rows[k]? = some row → g.kn[k]? = some d → BlkR w row d := fun k row d h1 h2 => by
      obtain ⟨rows', a1, a2, a3⟩ := hkn5.out
      have e := a1.rows_eq hrs0 (by omega)
      subst e; exact a3 k row d h1 h2
    have hrs := hide_ hrs0
    have hrl : Hid (∀ w', Ext w w' → rows.length = g.kn.length ∧ vb.oneCell' = true ∧ vs.oneCell' = true ∧ ∀ (k : Nat) (row : List Value) (d : BlkD), rows[k]? = some row → g.kn[k]? = some d → BlkR w' row d) := hide_ fun w' hx => ⟨hl5, h1s.out.1, h1s.out.2.1, fun k row d h1 h2 => BlkR.stays _ _ _ _ (hR5 k row d h1 h2) hx⟩
    have hfn := hide_ hfn0
    have hu1 := hide_ hu00.oneC
    have hu0 := hide_ hu00
    have hpb : Hid (g.passB m.bk = if q = true then (g, decide (c = m.bk)) else if m.bk.miner ∈ g.bad then (g.know m.bk, true) else (g, false)) := hide_ (by
      cases hh : g.find m.bk.name with
      | none => rw [hh] at hq0; subst hq0; exact GaD.passB_none hh
      | some y => rw [hh] at hq0; subst hq0; rw [← hcb y hh]; exact GaD.passB_some hh)
    have hps3 := hide_ hps2
    clear hrs0 hfn0 hq0 hu00 hl5 hR5 hcb hfnd hkn5 hps2 hb hkd
    go_wp2_with ((first
      | go_big_skip
      | ((with_reducible refine at_load ?_); refine w_aload Try.stRG (cs := [vb, vs, vk]) _ rfl rfl rfl f2 rfl ?_)
      | ((with_reducible refine at_field ?_); (try refine w_yes _ _ _ rfl rfl rfl ?_); refine w_mfield _ _ _ rfl rfl rfl (by omega) ?_)
      | ((with_reducible refine at_load ?_); (try refine w_yes _ _ _ rfl rfl rfl ?_); refine w_fload _ rfl rfl rfl f6 rfl (agg_of (by kernel_rfl)) ?_)
      | (go_at_call 15; refine (refIs_any (n := m.fm) (hg.out.ext hX).bad h1s.out.2.1 h1s.out.2.2).mono ?_; rintro e w26 ⟨rfl, hx⟩; rw [hbad.out]; replace f2 := f2.ext hx; replace f4 := f4.ext hx; replace f6 := f6.ext hx; replace ou := hide_ (ou.out.ext TxR.stays hx); replace hX := hX.trans hx; clear hx)
      | fail) <;> (try simp only [Act.put, List.setIfInBounds_toArray, List.set_cons_zero, List.set_cons_succ]))
    have hXW := hide_ (Ext.refl w)
    have F2 := f2; have F6 := f6; have hXw := hide_ (hXW.out.trans hX)
    refine wp_region_val [0, 1, 2, 3, 4, 5, 6, 7, 8, 10] (fun i => ([45, 46, 47, 48, 49, 44, 50, 51, 10, 0, 11] : List Nat).getD i 0) (fun i xx => xx = ([(.agg #[vb, vs, vk]), (.pointer (some ⟨g6, 8, none⟩)), (.agg (bRw m.bk u).toArray), (.int .i64 m.bk.name), (.tuple #[.agg #[.int .i64 c.slot, .int .i64 c.miner, .int .i64 c.var, .int .i64 c.parent, u1], .bool q]), (.tuple #[.agg #[.int .i64 c.slot, .int .i64 c.miner, .int .i64 c.var, .int .i64 c.parent, u1], .bool q]), (.agg #[.int .i64 c.slot, .int .i64 c.miner, .int .i64 c.var, .int .i64 c.parent, u1]), (.bool q), undef, undef, (.bool q)] : List Value).getD i undef) 8 9 [.int .i64 0, .int .i64 0, .int .i64 0, .int .i64 0, .slice none 0 0] (fun cs => cs = [.int .i64 c.slot, .int .i64 c.miner, .int .i64 c.var, .int .i64 c.parent, u1]) (by kernel_rfl) (by kernel_rfl) (by kernel_rfl) (by decide) (by decide) (by kernel_rfl) (by intro i hi; show _ < 69; revert i; decide) (by kernel_rfl) (by decide) (by kernel_rfl) ?_ ?_ ?_ ?_
    · intro i hi ha b w' hx hout hdep
      rcases (show i = 0 ∨ i = 1 ∨ i = 2 ∨ i = 3 ∨ i = 4 ∨ i = 5 ∨ i = 6 ∨ i = 7 ∨ i = 10 by simp at hi; omega) with rfl | rfl | rfl | rfl | rfl | rfl | rfl | rfl | rfl
      · have e2 : b.tmps.getD 2 undef = .pointer (some ⟨g2, 0, none⟩) := hout 2 (by decide)
        refine wpOp_of_list rfl ?_
        refine w_aload Try.stRG (.tmp 2) rfl rfl e2 (F2.ext hx) rfl ?_
        exact ⟨_, rfl, rfl, Ext.refl _⟩
      · have e6 : b.tmps.getD 6 undef = .pointer (some ⟨g6, 0, none⟩) := hout 6 (by decide)
        refine wpOp_of_list rfl ?_
        refine w_mfield (.tmp 6) g6 7 rfl rfl e6 (by omega) ?_
        exact ⟨_, rfl, rfl, Ext.refl _⟩
      · have e46 : b.tmps.getD 46 undef = .pointer (some ⟨g6, 8, none⟩) := hdep 1 (by decide) (by decide) (by kernel_rfl)
        refine wpOp_of_list rfl ?_
        refine w_loadN Try.stBlkM (.tmp 46) (bRw m.bk u) rfl rfl e46 (F6.ext hx) rfl (mbk_at m u) ?_
        exact ⟨_, rfl, rfl, Ext.refl _⟩
      · have e47 : b.tmps.getD 47 undef = .agg (bRw m.bk u).toArray := hdep 2 (by decide) (by decide) (by kernel_rfl)
        refine wpOp_call 17 #[.agg (bRw m.bk u).toArray] 48 rfl rfl rfl rfl (fun _ _ => rfl) (by simp only [List.map_toArray, List.map_cons, List.map_nil, Act.eval, e47]) ?_
        refine (refBName_any (b := m.bk) (ou.out.ext TxR.stays (hx)) hpar.out).mono ?_
        rintro e w2 ⟨rfl, hx2⟩
        exact ⟨_, rfl, _, rfl, rfl, hx2⟩
      · have e45 : b.tmps.getD 45 undef = .agg #[vb, vs, vk] := hdep 0 (by decide) (by decide) (by kernel_rfl)
        have e48 : b.tmps.getD 48 undef = .int .i64 m.bk.name := hdep 3 (by decide) (by decide) (by kernel_rfl)
        refine wpOp_call 27 #[.agg #[vb, vs, vk], .int .i64 m.bk.name] 49 rfl rfl rfl rfl (fun _ _ => rfl) (by simp only [List.map_toArray, List.map_cons, List.map_nil, Act.eval, e45, e48]) ?_
        refine (refFind_any (hrs.out.ext (hXw.out.trans hx)) (hrl.out _ (hXw.out.trans hx)) hfn.out).mono ?_
        rintro e w2 ⟨rfl, hx2⟩
        exact ⟨_, rfl, _, rfl, rfl, hx2⟩
      · have e49 : b.tmps.getD 49 undef = .tuple #[.agg #[.int .i64 c.slot, .int .i64 c.miner, .int .i64 c.var, .int .i64 c.parent, u1], .bool q] := hdep 4 (by decide) (by decide) (by kernel_rfl)
        refine wpOp_of_list rfl ?_
        refine w_mvC (.tmp 49) rfl (.inl rfl) e49 ?_
        exact ⟨_, rfl, rfl, Ext.refl _⟩
      · have e44 : b.tmps.getD 44 undef = .tuple #[.agg #[.int .i64 c.slot, .int .i64 c.miner, .int .i64 c.var, .int .i64 c.parent, u1], .bool q] := hdep 5 (by decide) (by decide) (by kernel_rfl)
        refine wpOp_of_list rfl ?_
        refine wpList_runs rfl (runs_extract (x := .tmp 44) rfl e44 rfl) ?_
        exact ⟨_, rfl, rfl, Ext.refl _⟩
      · have e44 : b.tmps.getD 44 undef = .tuple #[.agg #[.int .i64 c.slot, .int .i64 c.miner, .int .i64 c.var, .int .i64 c.parent, u1], .bool q] := hdep 5 (by decide) (by decide) (by kernel_rfl)
        refine wpOp_of_list rfl ?_
        refine wpList_runs rfl (runs_extract (x := .tmp 44) rfl e44 rfl) ?_
        exact ⟨_, rfl, rfl, Ext.refl _⟩
      · have e51 : b.tmps.getD 51 undef = .bool q := hdep 7 (by decide) (by decide) (by kernel_rfl)
        refine wpOp_of_list rfl ?_
        refine w_mvC (.tmp 51) rfl (.inr rfl) e51 ?_
        exact ⟨_, rfl, rfl, Ext.refl _⟩
    · intro b w'
      refine wpOp_of_list rfl ?_
      refine w_allocN Try.stBlkM rfl rfl ?_
      intro g w2 hg hx f
      exact ⟨g, rfl, hg, hx, f⟩
    · intro b w' g hx e10 f hdep
      have e50 : b.tmps.getD 50 undef = .agg #[.int .i64 c.slot, .int .i64 c.miner, .int .i64 c.var, .int .i64 c.parent, u1] := hdep 6 (by decide) (by decide) (by kernel_rfl)
      refine wpOp_of_list rfl ?_
      refine w_astoreN Try.stBlkM (.tmp 10) (.tmp 50) (us := [.int .i64 c.slot, .int .i64 c.miner, .int .i64 c.var, .int .i64 c.parent, u1]) rfl rfl rfl e10 e50 f rfl rfl (blk_one hu1.out) ?_
      intro w2 hm f2
      exact ⟨_, rfl, hm, f2, rfl⟩
    intro w8 xx hx8 hv hc
    obtain ⟨g8, cs, eal, hg8, f8, rfl⟩ := hc
    have ek10 : xx 10 = .bool q := hv 10 (by decide) (by decide)
    simp only [List.foldl_cons, List.foldl_nil, eal, ek10]
    generalize xx 0 = x100
    generalize xx 1 = x101
    generalize xx 2 = x102
    generalize xx 3 = x103
    generalize xx 4 = x104
    generalize xx 5 = x105
    generalize xx 6 = x106
    generalize xx 7 = x107
    simp only [List.getD_cons_zero, List.getD_cons_succ, Act.put, List.setIfInBounds_toArray, List.set_cons_zero, List.set_cons_succ]
    clear hv eal ek10
    replace hX := hX.trans hx8
    replace f2 := f2.ext hx8
    replace f4 := f4.ext hx8
    replace f6 := f6.ext hx8
    replace ou := hide_ (ou.out.ext TxR.stays hx8)
    clear hx8 hg8 F2 F6 hXw
    cases q with
    | true =>
      obtain ⟨qs, hqs0⟩ : ∃ qs, decide (c = m.bk) = qs := ⟨_, rfl⟩
      have hqs := hide_ hqs0
      have hfin := hide_ (show g.pass x = (g, qs) from by rw [hps3.out, hpb.out, if_pos rfl, hqs0])
      clear hqs0
      go_wp2
      refine wp_region_phx (by kernel_rfl) ?_; intro wd hxd; have F2 := f2.ext hxd; have F6 := f6.ext hxd; have F8 := f8.ext hxd
      refine Ph.gate 0 5 (by kernel_rfl) ?_
      refine LinL.step (s := (.val (.agg #[vb, vs, vk]))) [(2, none)] rfl (by kernel_rfl) (op_runs rfl fun σ w' hx hg => ⟨_, runs_aload (ρ := σ.eval) (w := w') Try.stRG (.tmp 2) rfl hg.1 (F2.ext hx) rfl, rfl⟩) ?_
      refine LinL.step (s := (.val (.agg #[.int .i64 c.slot, .int .i64 c.miner, .int .i64 c.var, .int .i64 c.parent, u1]))) [(10, none)] rfl (by kernel_rfl) (op_runs rfl fun σ w' hx hg => ⟨_, runs_aload (ρ := σ.eval) (w := w') Try.stBlk (.tmp 10) rfl hg.1 (F8.ext hx) rfl, rfl⟩) ?_
      refine LinL.step (s := (.val (.pointer (some ⟨g6, 8, none⟩)))) [(6, none)] rfl (by kernel_rfl) (op_runs rfl fun σ w' hx hg => ⟨_, runs_mfield (ρ := σ.eval) (w := w') (.tmp 6) g6 7 rfl hg.1 (by omega), rfl⟩) ?_
      refine LinL.step (s := (.val (.agg (bRw m.bk u).toArray))) [(55, some 0)] rfl (by kernel_rfl) (op_runs rfl fun σ w' hx hg => ⟨_, runs_loadN (ρ := σ.eval) (w := w') (us := bRw m.bk u) Try.stBlkM (.tmp 55) rfl hg.1 (F6.ext hx) rfl (mbk_at m u), rfl⟩) ?_
      refine LinL.step (s := (.val (.bool qs))) [(54, some 2), (56, some 0)] rfl (by kernel_rfl) (op_calls 18 #[(.tmp 54), (.tmp 56)] #[46, 46] (fun σ => #[.agg #[.int .i64 c.slot, .int .i64 c.miner, .int .i64 c.var, .int .i64 c.parent, u1], .agg (bRw m.bk u).toArray]) rfl rfl (fun _ _ => rfl) fun σ w' hx hg => ⟨by have h54 : σ.tmps.getD 54 undef = .agg #[.int .i64 c.slot, .int .i64 c.miner, .int .i64 c.var, .int .i64 c.parent, u1] := hg.1; have h56 : σ.tmps.getD 56 undef = .agg (bRw m.bk u).toArray := hg.2.1; simp only [List.map_toArray, List.map_cons, List.map_nil, Act.eval, h54, h56], bsameRG (b := c) (b2 := m.bk) (hu0.out.ext TxR.stays (hX.trans (hxd.trans hx))) (ou.out.ext TxR.stays (hxd.trans hx)) hqs.out⟩) ?_
      intro wN hxN
      simp only [Fin', List.reverse_cons, List.reverse_nil, List.nil_append, List.cons_append, List.drop_zero, List.take_succ_cons, List.take_zero]
      simp only [Act.put, List.setIfInBounds_toArray, List.set_cons_zero, List.set_cons_succ]
      replace f4 := (f4.ext hxd).ext hxN; replace hX := (hX.trans hxd).trans hxN
      refine wpOp_of_list rfl ?_
      refine w_astore Try.stRG _ _ (us := [vb, vs, vk]) rfl rfl rfl rfl rfl f4 rfl rfl (by intro y hy; simp at hy; rcases hy with rfl | rfl | rfl; exact h1s.out.1; exact h1s.out.2.1; exact h1s.out.2.2) ?_; intro w29 hm29 f29
      have hXF0 := hm29.after hX (fun i e => e ▸ hg4.out)
      clear hm29 f4 hxd hxN F2 F6 F8
      show Ph Try.prog _ _ 6 _ _
      refine Ph.rest 6 1 (by kernel_rfl) ?_
      refine LinL.step (s := (.val (.bool qs))) [(57, none)] rfl (by kernel_rfl) (op_out 57 (.bool qs) rfl (.inr rfl) rfl) ?_
      intro wN hxN
      simp only [Fin', List.reverse_cons, List.reverse_nil, List.nil_append, List.drop_zero, List.drop_succ_cons, List.take_succ_cons, List.take_zero]
      simp only [Act.put, List.setIfInBounds_toArray, List.set_cons_zero, List.set_cons_succ]
      have hXF := hide_ (hXF0.trans hxN)
      replace f29 := f29.ext hxN
      clear hxN hXF0
      go_wp2
      exact bodyPost_ret (ret_two Try.stRG rfl rfl rfl f29 rfl) rfl (Keep.intro ⟨vk, by rw [hfin.out]; rfl, by rw [hfin.out]; exact ⟨(hg.out.ext hXF.out).bad, (hg.out.ext hXF.out).said, (hg.out.ext hXF.out).kn⟩, hXF.out⟩)
    | false =>
      clear f8
      by_cases hmb : m.bk.miner ∈ g.bad
      · have hbad2 := hide_ (decide_eq_true hmb)
        have hfin := hide_ (show g.pass x = (g.know m.bk, true) from by rw [hps3.out, hpb.out, if_neg (by decide)]; exact if_pos hmb)
        clear hmb hbad
        go_wp2_with ((first
          | go_big_skip
          | ((with_reducible refine at_load ?_); refine w_aload Try.stRG (cs := [vb, vs, vk]) _ rfl rfl rfl f2 rfl ?_)
          | ((with_reducible refine at_field ?_); (try refine w_yes _ _ _ rfl rfl rfl ?_); refine w_mfield _ _ _ rfl rfl rfl (by omega) ?_)
          | ((with_reducible refine at_field ?_); refine w_bfieldM _ _ 1 rfl rfl rfl (by omega) ?_)
          | ((with_reducible refine at_load ?_); (try refine w_yes _ _ _ rfl rfl rfl ?_); refine w_loadN Try.stBlkM _ (bRw m.bk u) rfl rfl rfl f6 rfl (mbk_at m u) ?_)
          | ((with_reducible refine at_load ?_); (try refine w_yes _ _ _ rfl rfl rfl ?_); refine w_fload _ rfl rfl rfl f6 rfl (agg_of (by kernel_rfl)) ?_)
          | (go_at_call 15; refine (refIs_any (n := m.bk.miner) (hg.out.ext hX).bad h1s.out.2.1 h1s.out.2.2).mono ?_; rintro e w26 ⟨rfl, hx⟩; rw [hbad2.out]; replace f2 := f2.ext hx; replace f4 := f4.ext hx; replace f6 := f6.ext hx; replace ou := hide_ (ou.out.ext TxR.stays hx); replace hX := hX.trans hx; clear hx)
          | (go_at_call 28; refine (refKnow_any (hg.out.ext hX) ou.out hraw.out hfew.out.2).mono ?_; rintro e w27 ⟨vk', rfl, hRG26, hx⟩; have hk1 := hide_ hRG26.kn.oneC; have hkn := hide_ hRG26.kn; clear hRG26; replace f2 := f2.ext hx; replace f4 := f4.ext hx; replace hX := hX.trans hx; clear hx)
          | ((with_reducible refine at_store ?_); refine w_astore Try.stRG _ _ (us := [vb, vs, vk']) rfl rfl rfl rfl rfl f4 rfl rfl (by intro y hy; simp at hy; rcases hy with rfl | rfl | rfl; exact h1s.out.1; exact h1s.out.2.1; exact hk1.out) ?_; intro w29 hm29 f29; have hXF := hide_ (hm29.after hX (fun i e => e ▸ hg4.out)); have hkF := hide_ (recs5_mod hkn.out f4 (noI3 (fun _ e => nomatch e) (fun _ e => nomatch e) (fun _ e => nomatch e)) hm29); clear hm29 f4)
          | fail) <;> (try simp only [Act.put, List.setIfInBounds_toArray, List.set_cons_zero, List.set_cons_succ]))
        exact bodyPost_ret (ret_two Try.stRG rfl rfl rfl f29 rfl) rfl (Keep.intro ⟨vk', by rw [hfin.out]; rfl, by rw [hfin.out]; exact ⟨(hg.out.ext hXF.out).bad, (hg.out.ext hXF.out).said, hkF.out⟩, hXF.out⟩)
      · have hbad2 := hide_ (decide_eq_false hmb)
        have hfin := hide_ (show g.pass x = (g, false) from by rw [hps3.out, hpb.out, if_neg (by decide)]; exact if_neg hmb)
        clear hmb hbad
        go_wp2_with ((first
          | go_big_skip
          | ((with_reducible refine at_load ?_); refine w_aload Try.stRG (cs := [vb, vs, vk]) _ rfl rfl rfl f2 rfl ?_)
          | ((with_reducible refine at_field ?_); (try refine w_yes _ _ _ rfl rfl rfl ?_); refine w_mfield _ _ _ rfl rfl rfl (by omega) ?_)
          | ((with_reducible refine at_field ?_); refine w_bfieldM _ _ 1 rfl rfl rfl (by omega) ?_)
          | ((with_reducible refine at_load ?_); (try refine w_yes _ _ _ rfl rfl rfl ?_); refine w_fload _ rfl rfl rfl f6 rfl (agg_of (by kernel_rfl)) ?_)
          | (go_at_call 15; refine (refIs_any (n := m.bk.miner) (hg.out.ext hX).bad h1s.out.2.1 h1s.out.2.2).mono ?_; rintro e w26 ⟨rfl, hx⟩; rw [hbad2.out]; replace f2 := f2.ext hx; replace f4 := f4.ext hx; replace f6 := f6.ext hx; replace ou := hide_ (ou.out.ext TxR.stays hx); replace hX := hX.trans hx; clear hx)
          | ((with_reducible refine at_store ?_); refine w_astore Try.stRG _ _ (us := [vb, vs, vk]) rfl rfl rfl rfl rfl f4 rfl rfl (by intro y hy; simp at hy; rcases hy with rfl | rfl | rfl; exact h1s.out.1; exact h1s.out.2.1; exact h1s.out.2.2) ?_; intro w29 hm29 f29; have hXF := hide_ (hm29.after hX (fun i e => e ▸ hg4.out)); clear hm29 f4)
          | fail) <;> (try simp only [Act.put, List.setIfInBounds_toArray, List.set_cons_zero, List.set_cons_succ]))
        exact bodyPost_ret (ret_two Try.stRG rfl rfl rfl f29 rfl) rfl (Keep.intro ⟨vk, by rw [hfin.out]; rfl, by rw [hfin.out]; exact ⟨(hg.out.ext hXF.out).bad, (hg.out.ext hXF.out).said, (hg.out.ext hXF.out).kn⟩, hXF.out⟩)
end Go.Proofs.Ytgbhbifdfcfamaa
