/- Package gate: whether a block passes; Say; Pass. -/
import Derived.Test.YtgbhbifdfcfamaaGtB
import Derived.Test.YtgbhbifdfcfamaaRegG
import Derived.Deep.Cut
namespace Go.Proofs.Ytgbhbifdfcfamaa
set_option maxRecDepth 100000
open Go.RowKit Go.ChangeShapes Go.WideShapes Go.ChangeAt

set_option maxRecDepth 100000 in
set_option maxHeartbeats 3200000 in
theorem passBlock_any {G : Nat → Prop} {w : World} {p g1 g2 : Nat} {v : Value} {g : GaD} (h0 : GaW G w p g1 g2 v g) {u : Value} {b : BlkD} (hr0 : b.Right) (hu0 : Recs 2 TxR w u b.txs) (hp0 : I64 b.parent) (hfew0 : g.kn.length ≤ 1000) :
    Calls Try.prog 23 #[.pointer (some ⟨p, 0, none⟩), .agg #[.int .i64 b.slot, .int .i64 b.miner, .int .i64 b.var, .int .i64 b.parent, u]] w fun e w' => e = .returned (.bool (g.passB b).2) ∧ ∃ G', GaW G' w' p g1 g2 v (g.passB b).1 ∧ GaN G G' w w' g1 g2 := by
  refine calls_keep ?_
  have hG := hide_ h0
  have hr := hide_ hr0
  have hu := hide_ hu0
  have hp := hide_ hp0
  have hfew := hide_ hfew0
  have hX := Ext.refl w
  have hn := hide_ b.name_i64
  cases hf0 : g.find b.name with
  | some c =>
    have hfq := hide_ (show (g.find b.name).isSome = true from by rw [hf0]; rfl)
    obtain ⟨x0, hL0, hB0⟩ := h0.klook b.name_i64 hfq.out
    have hL := hide_ hL0
    have hB := hide_ (hB0 c hf0)
    have hc256 := hide_ c.bytes_lt
    have hb256 := hide_ b.bytes_lt
    obtain ⟨q, hq0⟩ : ∃ q, decide (c = b) = q := ⟨_, rfl⟩
    have hq := hide_ (show decide (c.bytes = b.bytes) = q from by rw [← hq0, decide_eq_decide]; exact GaD.bytes_one (h0.ok.right c (GaD.find_some hf0).1) hr0)
    have hfin := hide_ (show g.passB b = (g, q) from by rw [GaD.passB_some hf0, hq0])
    clear h0 hr0 hu0 hp0 hfew0 hf0 hL0 hB0 hq0
    go_enter Try.func23, Try.ntmps23
    go_wp2_with ((first
      | ((with_reducible refine at_box ?_); refine w_box _ [.int .i64 b.slot, .int .i64 b.miner, .int .i64 b.var, .int .i64 b.parent, u] rfl rfl rfl rfl ?_; intro g3 w1 hg3 hx f3; replace hX := hX.trans hx; clear hx)
      | ((with_reducible refine at_load ?_); (try refine w_yes _ _ _ rfl rfl rfl ?_); refine w_aload Try.stBlk _ rfl rfl rfl f3 rfl ?_)
      | (go_at_call 25; refine (isKnown_any (q := true) (hG.out.ext hX) (b := b) (hu.out.ext TxR.stays hX) hp.out hfq.out).mono ?_; rintro e w2 ⟨rfl, hx⟩; replace f3 := f3.ext hx; replace hX := hX.trans hx; clear hx)
      | fail) <;> (try simp only [Act.put, List.setIfInBounds_toArray, List.set_cons_zero, List.set_cons_succ]))
    refine wp_region_phx (by kernel_rfl) ?_; intro wd hxd; have F0 := hG.out.obj.ext (hX.trans hxd); have F3 := f3.ext hxd; have L0 := hide_ (hL.out.ext (hX.trans hxd))
    refine Ph.rest 0 11 (by kernel_rfl) ?_
    refine LinL.step (s := (.val (.pointer (some ⟨p, 0, none⟩)))) [(0, none)] rfl (by kernel_rfl) (op_out 0 (.pointer (some ⟨p, 0, none⟩)) rfl (.inl rfl) rfl) ?_
    refine LinL.step (s := (.val (.pointer (some ⟨p, 0, none⟩)))) [(8, some 0)] rfl (by kernel_rfl) (op_runs rfl fun σ w' hx hg => ⟨_, runs_nil (ρ := σ.eval) (w := w') (.tmp 8) rfl hg.1, rfl⟩) ?_
    refine LinL.step (s := (.val (.pointer (some ⟨p, 2, none⟩)))) [(9, some 0)] rfl (by kernel_rfl) (op_runs rfl fun σ w' hx hg => ⟨_, runs_field (ρ := σ.eval) (w := w') Try.stGa (.tmp 9) p 2 rfl hg.1 (by omega), rfl⟩) ?_
    refine LinL.step (s := (.val (.map (some g2)))) [(10, some 0)] rfl (by kernel_rfl) (op_runs rfl fun σ w' hx hg => ⟨_, runs_fload (ρ := σ.eval) (w := w') (.tmp 10) rfl hg.1 (agg_of (by kernel_rfl) _) (F0.ext hx) rfl, rfl⟩) ?_
    refine LinL.step (s := (.val (.agg #[.int .i64 b.slot, .int .i64 b.miner, .int .i64 b.var, .int .i64 b.parent, u]))) [(3, none)] rfl (by kernel_rfl) (op_runs rfl fun σ w' hx hg => ⟨_, runs_aload (ρ := σ.eval) (w := w') Try.stBlk (.tmp 3) rfl hg.1 (F3.ext hx) rfl, rfl⟩) ?_
    refine LinL.step (s := (.val (.int .i64 b.name))) [(12, some 0)] rfl (by kernel_rfl) (op_calls 48 #[(.tmp 12)] #[46] (fun σ => #[.agg #[.int .i64 b.slot, .int .i64 b.miner, .int .i64 b.var, .int .i64 b.parent, u]]) rfl rfl (fun _ _ => rfl) fun σ w' hx hg => ⟨by have h12 : σ.tmps.getD 12 undef = .agg #[.int .i64 b.slot, .int .i64 b.miner, .int .i64 b.var, .int .i64 b.parent, u] := hg.1; simp only [List.map_toArray, List.map_cons, List.map_nil, Act.eval, h12], nameR (b := b) (hu.out.ext TxR.stays (hX.trans (hxd.trans hx))) hp.out⟩) ?_
    refine LinL.step (s := (.val (x0))) [(11, some 2), (13, some 0)] rfl (by kernel_rfl) (op_runs rfl fun σ w' hx hg => ⟨_, runs_klookv (ρ := σ.eval) (w := w') (.tmp 11) (.tmp 13) rfl hg.1 hg.2.1 hn.out (L0.out.ext hx), rfl⟩) ?_
    refine LinL.step (s := (.val (.agg #[.int .i64 b.slot, .int .i64 b.miner, .int .i64 b.var, .int .i64 b.parent, u]))) [(3, none)] rfl (by kernel_rfl) (op_runs rfl fun σ w' hx hg => ⟨_, runs_aload (ρ := σ.eval) (w := w') Try.stBlk (.tmp 3) rfl hg.1 (F3.ext hx) rfl, rfl⟩) ?_
    refine LinL.step (s := (Sp.nb w.heap.size b.bytes)) [(15, some 0)] rfl (by kernel_rfl) (op_calls 49 #[(.tmp 15)] #[46] (fun σ => #[.agg #[.int .i64 b.slot, .int .i64 b.miner, .int .i64 b.var, .int .i64 b.parent, u]]) rfl rfl (fun _ _ => rfl) fun σ w' hx hg => ⟨by have h15 : σ.tmps.getD 15 undef = .agg #[.int .i64 b.slot, .int .i64 b.miner, .int .i64 b.var, .int .i64 b.parent, u] := hg.1; simp only [List.map_toArray, List.map_cons, List.map_nil, Act.eval, h15], bytesR (b := b) (Nat.le_trans (hX.trans hxd).size hx.size) hr.out (hu.out.ext TxR.stays (hX.trans (hxd.trans hx))) hp.out⟩) ?_
    refine LinL.step (s := (.val (.bool q))) [(14, some 2), (16, some 0)] rfl (by kernel_rfl) (op_calls 47 #[(.tmp 14), (.tmp 16)] #[33, 33] (fun σ => #[x0, σ.tmps.getD 16 undef]) rfl rfl (fun _ _ => rfl) fun σ w' hx hg => ⟨by have h14 : σ.tmps.getD 14 undef = x0 := hg.1; simp only [List.map_toArray, List.map_cons, List.map_nil, Act.eval, h14], equalR (hB.out.ext (hX.trans (hxd.trans hx))) hg.2.1 hc256.out hb256.out hq.out⟩) ?_
    refine LinL.step (s := (.val (.bool q))) [(17, some 0)] rfl (by kernel_rfl) (op_copy 17 0 (.val (.bool q)) rfl (.inr rfl) rfl) ?_
    intro wN hxN
    simp only [Fin', Sp.nb, List.reverse_cons, List.reverse_nil, List.nil_append, List.cons_append, List.drop_zero, List.take_succ_cons, List.take_zero]
    intro q16 hq16
    simp only [Act.put, List.setIfInBounds_toArray, List.set_cons_zero, List.set_cons_succ]
    replace hX := hX.trans (hxd.trans hxN)
    go_wp2
    go_ret
    exact Keep.intro ⟨by rw [hfin.out]; rfl, G, by rw [hfin.out]; exact hG.out.ext hX, GaN.ofExt hX⟩
  | none =>
    have hfq := hide_ (show (g.find b.name).isSome = false from by rw [hf0]; rfl)
    have hf := hide_ hf0
    by_cases hb : b.miner ∈ g.bad
    · have hbad := hide_ (decide_eq_true hb)
      have hfin := hide_ (show g.passB b = (g.know b, true) from by rw [GaD.passB_none hf0, if_pos hb])
      clear h0 hr0 hu0 hp0 hfew0 hf0 hb
      go_enter Try.func23, Try.ntmps23
      go_wp2_with ((first
        | ((with_reducible refine at_box ?_); refine w_box _ [.int .i64 b.slot, .int .i64 b.miner, .int .i64 b.var, .int .i64 b.parent, u] rfl rfl rfl rfl ?_; intro g3 w1 hg3 hx f3; replace hX := hX.trans hx; clear hx)
        | ((with_reducible refine at_load ?_); (try refine w_yes _ _ _ rfl rfl rfl ?_); refine w_aload Try.stBlk _ rfl rfl rfl f3 rfl ?_)
        | (go_at_call 25; refine (isKnown_any (q := false) (hG.out.ext hX) (b := b) (hu.out.ext TxR.stays hX) hp.out hfq.out).mono ?_; rintro e w2 ⟨rfl, hx⟩; replace f3 := f3.ext hx; replace hX := hX.trans hx; clear hx)
        | ((with_reducible refine at_field ?_); (try refine w_yes _ _ _ rfl rfl rfl ?_); refine w_field Try.stBlk _ _ _ rfl rfl rfl (by omega) ?_)
        | ((with_reducible refine at_load ?_); (try refine w_yes _ _ _ rfl rfl rfl ?_); refine w_fload _ rfl rfl rfl f3 rfl (agg_of (by kernel_rfl)) ?_)
        | (go_at_call 11; refine (GBad_any (hG.out.ext hX) b.miner).mono ?_; rintro e w4 ⟨rfl, hx⟩; rw [hbad.out]; replace f3 := f3.ext hx; replace hX := hX.trans hx; clear hx)
        | (go_at_call 26; refine (learn_any (hG.out.ext hX) hr.out (hu.out.ext TxR.stays hX) hp.out hf.out hfew.out).mono ?_; rintro e w5 ⟨rfl, G', hG5, hN5⟩; replace hG5 := hide_ hG5; replace hN5 := hide_ hN5)
        | fail) <;> (try simp only [Act.put, List.setIfInBounds_toArray, List.set_cons_zero, List.set_cons_succ]))
      go_ret
      exact Keep.intro ⟨by rw [hfin.out]; rfl, G', by rw [hfin.out]; exact hG5.out, (GaN.ofExt hX).trans hN5.out⟩
    · have hbad := hide_ (decide_eq_false hb)
      have hfin := hide_ (show g.passB b = (g, false) from by rw [GaD.passB_none hf0, if_neg hb])
      clear h0 hr0 hu0 hp0 hfew0 hf0 hb
      go_enter Try.func23, Try.ntmps23
      go_wp2_with ((first
        | ((with_reducible refine at_box ?_); refine w_box _ [.int .i64 b.slot, .int .i64 b.miner, .int .i64 b.var, .int .i64 b.parent, u] rfl rfl rfl rfl ?_; intro g3 w1 hg3 hx f3; replace hX := hX.trans hx; clear hx)
        | ((with_reducible refine at_load ?_); (try refine w_yes _ _ _ rfl rfl rfl ?_); refine w_aload Try.stBlk _ rfl rfl rfl f3 rfl ?_)
        | (go_at_call 25; refine (isKnown_any (q := false) (hG.out.ext hX) (b := b) (hu.out.ext TxR.stays hX) hp.out hfq.out).mono ?_; rintro e w2 ⟨rfl, hx⟩; replace f3 := f3.ext hx; replace hX := hX.trans hx; clear hx)
        | ((with_reducible refine at_field ?_); (try refine w_yes _ _ _ rfl rfl rfl ?_); refine w_field Try.stBlk _ _ _ rfl rfl rfl (by omega) ?_)
        | ((with_reducible refine at_load ?_); (try refine w_yes _ _ _ rfl rfl rfl ?_); refine w_fload _ rfl rfl rfl f3 rfl (agg_of (by kernel_rfl)) ?_)
        | (go_at_call 11; refine (GBad_any (hG.out.ext hX) b.miner).mono ?_; rintro e w4 ⟨rfl, hx⟩; rw [hbad.out]; replace f3 := f3.ext hx; replace hX := hX.trans hx; clear hx)
        | fail) <;> (try simp only [Act.put, List.setIfInBounds_toArray, List.set_cons_zero, List.set_cons_succ]))
      go_ret
      exact Keep.intro ⟨by rw [hfin.out]; rfl, G, by rw [hfin.out]; exact hG.out.ext hX, GaN.ofExt hX⟩
set_option maxRecDepth 100000 in
set_option maxHeartbeats 3200000 in
theorem GSay_any {G : Nat → Prop} {w : World} {p g1 g2 : Nat} {v : Value} {g : GaD} (h0 : GaW G w p g1 g2 v g) {vx : Value} {x : List Nat} (hx0 : ∀ c ∈ x, c < 256) (hl0 : x.length ≤ 140737488355328) (hv0 : Byt w vx x) (hfew0 : g.said.length ≤ 1000 ∧ g.kn.length ≤ 1000) :
    Calls Try.prog 12 #[.pointer (some ⟨p, 0, none⟩), vx] w fun e w' => e = .returned (.tuple #[]) ∧ ∃ G', GaW G' w' p g1 g2 v (g.say x) ∧ GaN G G' w w' g1 g2 := by
  refine calls_keep ?_
  have hG := hide_ h0
  have hx256 := hide_ hx0
  have hlen := hide_ hl0
  have hv := hide_ hv0
  have hfew := hide_ hfew0
  have hX := Ext.refl w
  cases hrd0 : rdMsg x with
  | none =>
    have hrd := hide_ hrd0
    clear h0 hx0 hl0 hv0 hfew0 hrd0
    go_enter Try.func12, Try.ntmps12
    go_wp2_with ((first
      | (go_at_call 22; refine (MRead_any hx256.out hlen.out (hv.out.ext hX)).mono ?_; rintro e w2 ⟨u, rfl, hx, ou0⟩; rw [hrd.out] at ou0 ⊢; rw [show omE none = 121 from rfl, show mOr none = MsgD.zero from rfl]; have ou := hide_ (show OwnT _ w2 u MsgD.zero.bk.txs from ou0); clear ou0; replace hX := hX.trans hx; clear hx)
      | ((with_reducible refine at_alloc ?_); refine w_agalloc Try.agMsg rfl rfl ?_; intro g4 w3 hg4 hx f4; have n4 := hide_ (fun k hk (e : k = g4) => (by have := ou.out.lt (k := k) hk; omega : False)); replace hg4 := Nat.le_trans hX.size hg4; replace ou := hide_ (ou.out.ext hx); replace hX := hX.trans hx; clear hx)
      | ((with_reducible refine at_store ?_); refine w_agput Try.agMsg (us := mRow MsgD.zero u) _ _ rfl rfl rfl rfl rfl f4 rfl rfl (m_one ou.out.recs.one') ?_; intro w4 hm4 f5; replace f4 := f5; replace ou := hide_ (ou.out.mod hm4 (fun k hk => n4.out k hk)).recs; replace hX := hm4.after hX (fun i e => e ▸ hg4); clear hm4 f5 n4 hg4)
      | fail) <;> (try simp only [Act.put, List.setIfInBounds_toArray, List.set_cons_zero, List.set_cons_succ]))
    go_end0
    exact Keep.intro ⟨rfl, G, by rw [GaD.say_none hrd.out]; exact (hG.out.ext hX).mute hrd.out, GaN.ofExt hX⟩
  | some m =>
    have hrd := hide_ hrd0
    have hm := GaD.rd_right hx0 hrd0
    have hpar := hide_ (show I64 m.bk.parent from hm.rawG.2)
    by_cases hk : m.kd = 1
    · have t1 : (m.kd == 1) = true := by simp [hk]
      have hbr := hide_ (hm.bkOk hk)
      have hsay := hide_ (GaD.say_blk (g := g) hrd0 hk)
      cases hf0 : (g.tell x).find m.bk.name with
      | some c =>
        have hfq := hide_ (show ((g.tell x).find m.bk.name).isSome = true from by rw [hf0]; rfl)
        clear h0 hx0 hl0 hv0 hfew0 hrd0 hk hm hf0
        go_enter Try.func12, Try.ntmps12
        go_wp2_with ((first
          | go_big_skip
          | (go_at_call 22; refine (MRead_any hx256.out hlen.out (hv.out.ext hX)).mono ?_; rintro e w2 ⟨u, rfl, hx, ou0⟩; rw [hrd.out] at ou0 ⊢; rw [show omE (some m) = 0 from rfl, show mOr (some m) = m from rfl]; have ou := hide_ (show OwnT _ w2 u m.bk.txs from ou0); clear ou0; replace hX := hX.trans hx; clear hx)
          | ((with_reducible refine at_alloc ?_); refine w_agalloc Try.agMsg rfl rfl ?_; intro g4 w3 hg4 hx f4; have n4 := hide_ (fun k hk (e : k = g4) => (by have := ou.out.lt (k := k) hk; omega : False)); replace hg4 := Nat.le_trans hX.size hg4; replace ou := hide_ (ou.out.ext hx); replace hX := hX.trans hx; clear hx)
          | ((with_reducible refine at_store ?_); refine w_agput Try.agMsg (us := mRow m u) _ _ rfl rfl rfl rfl rfl f4 rfl rfl (m_one ou.out.recs.one') ?_; intro w4 hm4 f5; replace f4 := f5; replace ou := hide_ (ou.out.mod hm4 (fun k hk => n4.out k hk)).recs; replace hX := hm4.after hX (fun i e => e ▸ hg4); clear hm4 f5 n4 hg4)
          | fail) <;> (try simp only [Act.put, List.setIfInBounds_toArray, List.set_cons_zero, List.set_cons_succ]))
        refine wp_region_phx (by kernel_rfl) ?_; intro wd hxd; have F0 := hG.out.obj.ext (hX.trans hxd); have bx := hide_ (hv.out.ext (hX.trans hxd))
        refine Ph.gate 0 7 (by kernel_rfl) ?_
        refine LinL.step (s := (.val (.pointer (some ⟨p, 0, none⟩)))) [(0, none)] rfl (by kernel_rfl) (op_out 0 (.pointer (some ⟨p, 0, none⟩)) rfl (.inl rfl) rfl) ?_
        refine LinL.step (s := (.val (.pointer (some ⟨p, 0, none⟩)))) [(13, some 0)] rfl (by kernel_rfl) (op_runs rfl fun σ w' hx hg => ⟨_, runs_nil (ρ := σ.eval) (w := w') (.tmp 13) rfl hg.1, rfl⟩) ?_
        refine LinL.step (s := (.val (.pointer (some ⟨p, 1, none⟩)))) [(14, some 0)] rfl (by kernel_rfl) (op_runs rfl fun σ w' hx hg => ⟨_, runs_field (ρ := σ.eval) (w := w') Try.stGa (.tmp 14) p 1 rfl hg.1 (by omega), rfl⟩) ?_
        refine LinL.step (s := (.val (.map (some g1)))) [(15, some 0)] rfl (by kernel_rfl) (op_runs rfl fun σ w' hx hg => ⟨_, runs_fload (ρ := σ.eval) (w := w') (.tmp 15) rfl hg.1 (agg_of (by kernel_rfl) _) (F0.ext hx) rfl, rfl⟩) ?_
        refine LinL.step (s := (.val (vx))) [(1, none)] rfl (by kernel_rfl) (op_out 1 (vx) rfl (.inl rfl) rfl) ?_
        refine LinL.step (s := (.val (.string (strN x)))) [(17, some 0)] rfl (by kernel_rfl) (op_runs rfl fun σ w' hx hg => ⟨_, runs_str (ρ := σ.eval) (w := w') (.tmp 17) rfl hg.1 (bx.out.ext hx), rfl⟩) ?_
        refine LinL.step (s := (.val (.agg #[]))) [] rfl (by kernel_rfl) (op_runs rfl fun σ w' hx hg => ⟨_, runs_ubuild rfl, rfl⟩) ?_
        intro wN hxN
        simp only [Fin', List.reverse_cons, List.reverse_nil, List.nil_append, List.cons_append, List.drop_zero, List.take_succ_cons, List.take_zero]
        simp only [Act.put, List.setIfInBounds_toArray, List.set_cons_zero, List.set_cons_succ]
        replace hX := (hX.trans hxd).trans hxN
        have hGe := hide_ (hG.out.ext hX)
        obtain ⟨D1, o1, s1⟩ := hGe.out.m1
        refine wpOp_of_list rfl ?_
        refine w_gput Try.kS Try.underlying59 _ _ _ (d := .agg []) rfl rfl rfl rfl rfl rfl o1 (by have := hfew.out; omega) (sk_key hlen.out) rfl ?_; intro w9 hm9 o9
        have hG9 := hide_ (hGe.out.said hm9 o9 (s1.put o1.isMap hx256.out hrd.out))
        have hM9 := hide_ ((hX.mod (gm g1 g2)).trans hm9 (fun i _ e => .inl e))
        replace f4 := (f4.ext (hxd.trans hxN)).mapmod hm9 (fun k e => hGe.out.maps k (.inl e)); replace ou := hide_ (recsT_mapmod (ou.out.ext TxR.stays (hxd.trans hxN)) hm9 (fun k e => hGe.out.maps k (.inl e)))
        clear o1 s1 o9 hm9 hGe hxd hxN
        show Ph Try.prog _ _ 8 _ _
        refine Ph.rest 8 0 (by kernel_rfl) ?_
        intro wM hxM
        simp only [Fin', List.reverse_nil, List.drop_zero, List.drop_succ_cons, List.take_zero]
        replace f4 := f4.ext hxM; replace ou := hide_ (ou.out.ext TxR.stays hxM); replace hG9 := hide_ (hG9.out.ext hxM); replace hM9 := hide_ (hM9.out.trans (hxM.mod _) (fun i _ e => e)); clear hxM hX
        go_wp2_with ((first
          | go_big_skip
          | ((with_reducible refine at_field ?_); (try refine w_yes _ _ _ rfl rfl rfl ?_); refine w_mfield _ _ _ rfl rfl rfl (by omega) ?_)
          | ((with_reducible refine at_load ?_); (try refine w_yes _ _ _ rfl rfl rfl ?_); refine w_loadN Try.stBlkM _ (bRw m.bk u) rfl rfl rfl f4 rfl (mbk_at m u) ?_)
          | ((with_reducible refine at_load ?_); (try refine w_yes _ _ _ rfl rfl rfl ?_); refine w_fload _ rfl rfl rfl f4 rfl (agg_of (by kernel_rfl)) ?_)
          | (go_at_call 25; refine (isKnown_any (q := true) hG9.out (b := m.bk) ou.out hpar.out hfq.out).mono ?_; rintro e w7 ⟨rfl, hx⟩; replace f4 := f4.ext hx; replace ou := hide_ (ou.out.ext TxR.stays hx); replace hG9 := hide_ (hG9.out.ext hx); replace hM9 := hide_ (hM9.out.trans (hx.mod _) (fun i _ e => e)); clear hx)
          | fail) <;> (try simp only [Act.put, List.setIfInBounds_toArray, List.set_cons_zero, List.set_cons_succ]))
        go_end0
        exact Keep.intro ⟨rfl, G, by rw [hsay.out, GaD.learn_yes hfq.out]; exact hG9.out, ⟨hM9.out, fun k h => .inl h⟩⟩
      | none =>
        have hfq := hide_ (show ((g.tell x).find m.bk.name).isSome = false from by rw [hf0]; rfl)
        have hf := hide_ hf0
        clear h0 hx0 hl0 hv0 hfew0 hrd0 hk hm hf0
        go_enter Try.func12, Try.ntmps12
        go_wp2_with ((first
          | go_big_skip
          | (go_at_call 22; refine (MRead_any hx256.out hlen.out (hv.out.ext hX)).mono ?_; rintro e w2 ⟨u, rfl, hx, ou0⟩; rw [hrd.out] at ou0 ⊢; rw [show omE (some m) = 0 from rfl, show mOr (some m) = m from rfl]; have ou := hide_ (show OwnT _ w2 u m.bk.txs from ou0); clear ou0; replace hX := hX.trans hx; clear hx)
          | ((with_reducible refine at_alloc ?_); refine w_agalloc Try.agMsg rfl rfl ?_; intro g4 w3 hg4 hx f4; have n4 := hide_ (fun k hk (e : k = g4) => (by have := ou.out.lt (k := k) hk; omega : False)); replace hg4 := Nat.le_trans hX.size hg4; replace ou := hide_ (ou.out.ext hx); replace hX := hX.trans hx; clear hx)
          | ((with_reducible refine at_store ?_); refine w_agput Try.agMsg (us := mRow m u) _ _ rfl rfl rfl rfl rfl f4 rfl rfl (m_one ou.out.recs.one') ?_; intro w4 hm4 f5; replace f4 := f5; replace ou := hide_ (ou.out.mod hm4 (fun k hk => n4.out k hk)).recs; replace hX := hm4.after hX (fun i e => e ▸ hg4); clear hm4 f5 n4 hg4)
          | fail) <;> (try simp only [Act.put, List.setIfInBounds_toArray, List.set_cons_zero, List.set_cons_succ]))
        refine wp_region_phx (by kernel_rfl) ?_; intro wd hxd; have F0 := hG.out.obj.ext (hX.trans hxd); have bx := hide_ (hv.out.ext (hX.trans hxd))
        refine Ph.gate 0 7 (by kernel_rfl) ?_
        refine LinL.step (s := (.val (.pointer (some ⟨p, 0, none⟩)))) [(0, none)] rfl (by kernel_rfl) (op_out 0 (.pointer (some ⟨p, 0, none⟩)) rfl (.inl rfl) rfl) ?_
        refine LinL.step (s := (.val (.pointer (some ⟨p, 0, none⟩)))) [(13, some 0)] rfl (by kernel_rfl) (op_runs rfl fun σ w' hx hg => ⟨_, runs_nil (ρ := σ.eval) (w := w') (.tmp 13) rfl hg.1, rfl⟩) ?_
        refine LinL.step (s := (.val (.pointer (some ⟨p, 1, none⟩)))) [(14, some 0)] rfl (by kernel_rfl) (op_runs rfl fun σ w' hx hg => ⟨_, runs_field (ρ := σ.eval) (w := w') Try.stGa (.tmp 14) p 1 rfl hg.1 (by omega), rfl⟩) ?_
        refine LinL.step (s := (.val (.map (some g1)))) [(15, some 0)] rfl (by kernel_rfl) (op_runs rfl fun σ w' hx hg => ⟨_, runs_fload (ρ := σ.eval) (w := w') (.tmp 15) rfl hg.1 (agg_of (by kernel_rfl) _) (F0.ext hx) rfl, rfl⟩) ?_
        refine LinL.step (s := (.val (vx))) [(1, none)] rfl (by kernel_rfl) (op_out 1 (vx) rfl (.inl rfl) rfl) ?_
        refine LinL.step (s := (.val (.string (strN x)))) [(17, some 0)] rfl (by kernel_rfl) (op_runs rfl fun σ w' hx hg => ⟨_, runs_str (ρ := σ.eval) (w := w') (.tmp 17) rfl hg.1 (bx.out.ext hx), rfl⟩) ?_
        refine LinL.step (s := (.val (.agg #[]))) [] rfl (by kernel_rfl) (op_runs rfl fun σ w' hx hg => ⟨_, runs_ubuild rfl, rfl⟩) ?_
        intro wN hxN
        simp only [Fin', List.reverse_cons, List.reverse_nil, List.nil_append, List.cons_append, List.drop_zero, List.take_succ_cons, List.take_zero]
        simp only [Act.put, List.setIfInBounds_toArray, List.set_cons_zero, List.set_cons_succ]
        replace hX := (hX.trans hxd).trans hxN
        have hGe := hide_ (hG.out.ext hX)
        obtain ⟨D1, o1, s1⟩ := hGe.out.m1
        refine wpOp_of_list rfl ?_
        refine w_gput Try.kS Try.underlying59 _ _ _ (d := .agg []) rfl rfl rfl rfl rfl rfl o1 (by have := hfew.out; omega) (sk_key hlen.out) rfl ?_; intro w9 hm9 o9
        have hG9 := hide_ (hGe.out.said hm9 o9 (s1.put o1.isMap hx256.out hrd.out))
        have hM9 := hide_ ((hX.mod (gm g1 g2)).trans hm9 (fun i _ e => .inl e))
        replace f4 := (f4.ext (hxd.trans hxN)).mapmod hm9 (fun k e => hGe.out.maps k (.inl e)); replace ou := hide_ (recsT_mapmod (ou.out.ext TxR.stays (hxd.trans hxN)) hm9 (fun k e => hGe.out.maps k (.inl e)))
        clear o1 s1 o9 hm9 hGe hxd hxN
        show Ph Try.prog _ _ 8 _ _
        refine Ph.rest 8 0 (by kernel_rfl) ?_
        intro wM hxM
        simp only [Fin', List.reverse_nil, List.drop_zero, List.drop_succ_cons, List.take_zero]
        replace f4 := f4.ext hxM; replace ou := hide_ (ou.out.ext TxR.stays hxM); replace hG9 := hide_ (hG9.out.ext hxM); replace hM9 := hide_ (hM9.out.trans (hxM.mod _) (fun i _ e => e)); clear hxM hX
        go_wp2_with ((first
          | go_big_skip
          | ((with_reducible refine at_field ?_); (try refine w_yes _ _ _ rfl rfl rfl ?_); refine w_mfield _ _ _ rfl rfl rfl (by omega) ?_)
          | ((with_reducible refine at_load ?_); (try refine w_yes _ _ _ rfl rfl rfl ?_); refine w_loadN Try.stBlkM _ (bRw m.bk u) rfl rfl rfl f4 rfl (mbk_at m u) ?_)
          | ((with_reducible refine at_load ?_); (try refine w_yes _ _ _ rfl rfl rfl ?_); refine w_fload _ rfl rfl rfl f4 rfl (agg_of (by kernel_rfl)) ?_)
          | (go_at_call 25; refine (isKnown_any (q := false) hG9.out (b := m.bk) ou.out hpar.out hfq.out).mono ?_; rintro e w7 ⟨rfl, hx⟩; replace f4 := f4.ext hx; replace ou := hide_ (ou.out.ext TxR.stays hx); replace hG9 := hide_ (hG9.out.ext hx); replace hM9 := hide_ (hM9.out.trans (hx.mod _) (fun i _ e => e)); clear hx)
          | (go_at_call 26; refine (learn_any hG9.out hbr.out ou.out hpar.out hf.out hfew.out.2).mono ?_; rintro e w8 ⟨rfl, G', hGA, hNA⟩; replace hGA := hide_ hGA; replace hNA := hide_ hNA)
          | fail) <;> (try simp only [Act.put, List.setIfInBounds_toArray, List.set_cons_zero, List.set_cons_succ]))
        go_end0
        exact Keep.intro ⟨rfl, G', by rw [hsay.out, GaD.learn_no hf.out]; exact hGA.out, GaN.trans ⟨hM9.out, fun k h => .inl h⟩ hNA.out⟩
    · have t1 : (m.kd == 1) = false := by simpa using hk
      have hsay := hide_ (GaD.say_oth (g := g) hrd0 hk)
      clear h0 hx0 hl0 hv0 hfew0 hrd0 hk hm
      go_enter Try.func12, Try.ntmps12
      go_wp2_with ((first
        | go_big_skip
        | (go_at_call 22; refine (MRead_any hx256.out hlen.out (hv.out.ext hX)).mono ?_; rintro e w2 ⟨u, rfl, hx, ou0⟩; rw [hrd.out] at ou0 ⊢; rw [show omE (some m) = 0 from rfl, show mOr (some m) = m from rfl]; have ou := hide_ (show OwnT _ w2 u m.bk.txs from ou0); clear ou0; replace hX := hX.trans hx; clear hx)
        | ((with_reducible refine at_alloc ?_); refine w_agalloc Try.agMsg rfl rfl ?_; intro g4 w3 hg4 hx f4; have n4 := hide_ (fun k hk (e : k = g4) => (by have := ou.out.lt (k := k) hk; omega : False)); replace hg4 := Nat.le_trans hX.size hg4; replace ou := hide_ (ou.out.ext hx); replace hX := hX.trans hx; clear hx)
        | ((with_reducible refine at_store ?_); refine w_agput Try.agMsg (us := mRow m u) _ _ rfl rfl rfl rfl rfl f4 rfl rfl (m_one ou.out.recs.one') ?_; intro w4 hm4 f5; replace f4 := f5; replace ou := hide_ (ou.out.mod hm4 (fun k hk => n4.out k hk)).recs; replace hX := hm4.after hX (fun i e => e ▸ hg4); clear hm4 f5 n4 hg4)
        | fail) <;> (try simp only [Act.put, List.setIfInBounds_toArray, List.set_cons_zero, List.set_cons_succ]))
      refine wp_region_phx (by kernel_rfl) ?_; intro wd hxd; have F0 := hG.out.obj.ext (hX.trans hxd); have bx := hide_ (hv.out.ext (hX.trans hxd))
      refine Ph.gate 0 7 (by kernel_rfl) ?_
      refine LinL.step (s := (.val (.pointer (some ⟨p, 0, none⟩)))) [(0, none)] rfl (by kernel_rfl) (op_out 0 (.pointer (some ⟨p, 0, none⟩)) rfl (.inl rfl) rfl) ?_
      refine LinL.step (s := (.val (.pointer (some ⟨p, 0, none⟩)))) [(13, some 0)] rfl (by kernel_rfl) (op_runs rfl fun σ w' hx hg => ⟨_, runs_nil (ρ := σ.eval) (w := w') (.tmp 13) rfl hg.1, rfl⟩) ?_
      refine LinL.step (s := (.val (.pointer (some ⟨p, 1, none⟩)))) [(14, some 0)] rfl (by kernel_rfl) (op_runs rfl fun σ w' hx hg => ⟨_, runs_field (ρ := σ.eval) (w := w') Try.stGa (.tmp 14) p 1 rfl hg.1 (by omega), rfl⟩) ?_
      refine LinL.step (s := (.val (.map (some g1)))) [(15, some 0)] rfl (by kernel_rfl) (op_runs rfl fun σ w' hx hg => ⟨_, runs_fload (ρ := σ.eval) (w := w') (.tmp 15) rfl hg.1 (agg_of (by kernel_rfl) _) (F0.ext hx) rfl, rfl⟩) ?_
      refine LinL.step (s := (.val (vx))) [(1, none)] rfl (by kernel_rfl) (op_out 1 (vx) rfl (.inl rfl) rfl) ?_
      refine LinL.step (s := (.val (.string (strN x)))) [(17, some 0)] rfl (by kernel_rfl) (op_runs rfl fun σ w' hx hg => ⟨_, runs_str (ρ := σ.eval) (w := w') (.tmp 17) rfl hg.1 (bx.out.ext hx), rfl⟩) ?_
      refine LinL.step (s := (.val (.agg #[]))) [] rfl (by kernel_rfl) (op_runs rfl fun σ w' hx hg => ⟨_, runs_ubuild rfl, rfl⟩) ?_
      intro wN hxN
      simp only [Fin', List.reverse_cons, List.reverse_nil, List.nil_append, List.cons_append, List.drop_zero, List.take_succ_cons, List.take_zero]
      simp only [Act.put, List.setIfInBounds_toArray, List.set_cons_zero, List.set_cons_succ]
      replace hX := (hX.trans hxd).trans hxN
      have hGe := hide_ (hG.out.ext hX)
      obtain ⟨D1, o1, s1⟩ := hGe.out.m1
      refine wpOp_of_list rfl ?_
      refine w_gput Try.kS Try.underlying59 _ _ _ (d := .agg []) rfl rfl rfl rfl rfl rfl o1 (by have := hfew.out; omega) (sk_key hlen.out) rfl ?_; intro w9 hm9 o9
      have hG9 := hide_ (hGe.out.said hm9 o9 (s1.put o1.isMap hx256.out hrd.out))
      have hM9 := hide_ ((hX.mod (gm g1 g2)).trans hm9 (fun i _ e => .inl e))
      replace f4 := (f4.ext (hxd.trans hxN)).mapmod hm9 (fun k e => hGe.out.maps k (.inl e)); replace ou := hide_ (recsT_mapmod (ou.out.ext TxR.stays (hxd.trans hxN)) hm9 (fun k e => hGe.out.maps k (.inl e)))
      clear o1 s1 o9 hm9 hGe hxd hxN
      show Ph Try.prog _ _ 8 _ _
      refine Ph.rest 8 0 (by kernel_rfl) ?_
      intro wM hxM
      simp only [Fin', List.reverse_nil, List.drop_zero, List.drop_succ_cons, List.take_zero]
      replace f4 := f4.ext hxM; replace ou := hide_ (ou.out.ext TxR.stays hxM); replace hG9 := hide_ (hG9.out.ext hxM); replace hM9 := hide_ (hM9.out.trans (hxM.mod _) (fun i _ e => e)); clear hxM hX
      go_wp2_with ((first
        | go_big_skip
        | ((with_reducible refine at_field ?_); (try refine w_yes _ _ _ rfl rfl rfl ?_); refine w_mfield _ _ _ rfl rfl rfl (by omega) ?_)
        | ((with_reducible refine at_load ?_); (try refine w_yes _ _ _ rfl rfl rfl ?_); refine w_loadN Try.stBlkM _ (bRw m.bk u) rfl rfl rfl f4 rfl (mbk_at m u) ?_)
        | ((with_reducible refine at_load ?_); (try refine w_yes _ _ _ rfl rfl rfl ?_); refine w_fload _ rfl rfl rfl f4 rfl (agg_of (by kernel_rfl)) ?_)
        | fail) <;> (try simp only [Act.put, List.setIfInBounds_toArray, List.set_cons_zero, List.set_cons_succ]))
      go_end0
      exact Keep.intro ⟨rfl, G, by rw [hsay.out]; exact hG9.out, ⟨hM9.out, fun k h => .inl h⟩⟩
set_option maxRecDepth 100000 in
set_option maxHeartbeats 3200000 in
theorem GPass_any {G : Nat → Prop} {w : World} {p g1 g2 : Nat} {v : Value} {g : GaD} (h0 : GaW G w p g1 g2 v g) {vx : Value} {x : List Nat} (hx0 : ∀ c ∈ x, c < 256) (hl0 : x.length ≤ 140737488355328) (hv0 : Byt w vx x) (hfew0 : g.said.length ≤ 1000 ∧ g.kn.length ≤ 1000) :
    Calls Try.prog 10 #[.pointer (some ⟨p, 0, none⟩), vx] w fun e w' => e = .returned (.bool (g.pass x).2) ∧ ∃ G', GaW G' w' p g1 g2 v (g.pass x).1 ∧ GaN G G' w w' g1 g2 := by
  refine calls_keep ?_
  have hG := hide_ h0
  have hx256 := hide_ hx0
  have hlen := hide_ hl0
  have hv := hide_ hv0
  have hfew := hide_ hfew0
  have hX := Ext.refl w
  cases hrd0 : rdMsg x with
  | none =>
    have hrd := hide_ hrd0
    have hfin := hide_ (GaD.pass_none (g := g) hrd0)
    clear h0 hx0 hl0 hv0 hfew0 hrd0
    go_enter Try.func10, Try.ntmps10
    go_wp2_with ((first
      | (go_at_call 22; refine (MRead_any hx256.out hlen.out (hv.out.ext hX)).mono ?_; rintro e w2 ⟨u, rfl, hx, ou0⟩; rw [hrd.out] at ou0 ⊢; rw [show omE none = 121 from rfl, show mOr none = MsgD.zero from rfl]; have ou := hide_ (show OwnT _ w2 u MsgD.zero.bk.txs from ou0); clear ou0; replace hX := hX.trans hx; clear hx)
      | ((with_reducible refine at_alloc ?_); refine w_agalloc Try.agMsg rfl rfl ?_; intro g4 w3 hg4 hx f4; have n4 := hide_ (fun k hk (e : k = g4) => (by have := ou.out.lt (k := k) hk; omega : False)); replace hg4 := Nat.le_trans hX.size hg4; replace ou := hide_ (ou.out.ext hx); replace hX := hX.trans hx; clear hx)
      | ((with_reducible refine at_store ?_); refine w_agput Try.agMsg (us := mRow MsgD.zero u) _ _ rfl rfl rfl rfl rfl f4 rfl rfl (m_one ou.out.recs.one') ?_; intro w4 hm4 f5; replace f4 := f5; replace ou := hide_ (ou.out.mod hm4 (fun k hk => n4.out k hk)).recs; replace hX := hm4.after hX (fun i e => e ▸ hg4); clear hm4 f5 n4 hg4)
      | fail) <;> (try simp only [Act.put, List.setIfInBounds_toArray, List.set_cons_zero, List.set_cons_succ]))
    go_ret
    exact Keep.intro ⟨by rw [hfin.out]; rfl, G, by rw [hfin.out]; exact hG.out.ext hX, GaN.ofExt hX⟩
  | some m =>
    have hrd := hide_ hrd0
    have hm := GaD.rd_right hx0 hrd0
    have hpar := hide_ (show I64 m.bk.parent from hm.rawG.2)
    have hps := GaD.pass_some (g := g) hrd0
    by_cases hs : x ∈ g.said
    · have hL := hide_ (h0.slook hx0 (q := true) (by rw [hrd0]; simp [hs]))
      have hfin := hide_ (show g.pass x = (g, true) from by rw [hps, if_pos hs])
      clear h0 hx0 hl0 hv0 hfew0 hrd0 hm hps hs
      go_enter Try.func10, Try.ntmps10
      go_wp2_with ((first
        | go_big_skip
        | (go_at_call 22; refine (MRead_any hx256.out hlen.out (hv.out.ext hX)).mono ?_; rintro e w2 ⟨u, rfl, hx, ou0⟩; rw [hrd.out] at ou0 ⊢; rw [show omE (some m) = 0 from rfl, show mOr (some m) = m from rfl]; have ou := hide_ (show OwnT _ w2 u m.bk.txs from ou0); clear ou0; replace hX := hX.trans hx; clear hx)
        | ((with_reducible refine at_alloc ?_); refine w_agalloc Try.agMsg rfl rfl ?_; intro g4 w3 hg4 hx f4; have n4 := hide_ (fun k hk (e : k = g4) => (by have := ou.out.lt (k := k) hk; omega : False)); replace hg4 := Nat.le_trans hX.size hg4; replace ou := hide_ (ou.out.ext hx); replace hX := hX.trans hx; clear hx)
        | ((with_reducible refine at_store ?_); refine w_agput Try.agMsg (us := mRow m u) _ _ rfl rfl rfl rfl rfl f4 rfl rfl (m_one ou.out.recs.one') ?_; intro w4 hm4 f5; replace f4 := f5; replace ou := hide_ (ou.out.mod hm4 (fun k hk => n4.out k hk)).recs; replace hX := hm4.after hX (fun i e => e ▸ hg4); clear hm4 f5 n4 hg4)
        | fail) <;> (try simp only [Act.put, List.setIfInBounds_toArray, List.set_cons_zero, List.set_cons_succ]))
      have F0 := hG.out.obj.ext hX; have B0 := hide_ (hv.out.ext hX); have L0 := hide_ (hL.out.ext hX)
      refine wp_region_val [0, 1, 2, 3, 4, 5, 6, 7, 8, 9, 10, 12] (fun i => ([17, 18, 19, 20, 21, 22, 23, 16, 24, 25, 7, 0, 8] : List Nat).getD i 0) (fun i xx => xx = ([(.pointer (some ⟨p, 0, none⟩)), (.pointer (some ⟨p, 0, none⟩)), (.pointer (some ⟨p, 1, none⟩)), (.map (some g1)), (vx), (.string (strN x)), (.tuple #[.agg #[], .bool true]), (.tuple #[.agg #[], .bool true]), (.agg #[]), (.bool true), undef, undef, (.bool true)] : List Value).getD i undef) 10 11 [] (fun cs => cs = []) (by kernel_rfl) (by kernel_rfl) (by kernel_rfl) (by decide) (by decide) (by kernel_rfl) (by intro i hi; show _ < 41; revert i; decide) (by kernel_rfl) (by decide) (by kernel_rfl) ?_ ?_ ?_ ?_
      · intro i hi ha b w' hx hout hdep
        rcases (show i = 0 ∨ i = 1 ∨ i = 2 ∨ i = 3 ∨ i = 4 ∨ i = 5 ∨ i = 6 ∨ i = 7 ∨ i = 8 ∨ i = 9 ∨ i = 12 by simp at hi; omega) with rfl | rfl | rfl | rfl | rfl | rfl | rfl | rfl | rfl | rfl | rfl
        · have e0 : b.tmps.getD 0 undef = .pointer (some ⟨p, 0, none⟩) := hout 0 (by decide)
          refine wpOp_of_list rfl ?_
          refine w_mvC (.tmp 0) rfl (.inl rfl) e0 ?_
          exact ⟨_, rfl, rfl, Ext.refl _⟩
        · have e17 : b.tmps.getD 17 undef = .pointer (some ⟨p, 0, none⟩) := hdep 0 (by decide) (by decide) (by kernel_rfl)
          refine wpOp_of_list rfl ?_
          refine w_nilC _ rfl rfl e17 ?_
          exact ⟨_, rfl, rfl, Ext.refl _⟩
        · have e18 : b.tmps.getD 18 undef = .pointer (some ⟨p, 0, none⟩) := hdep 1 (by decide) (by decide) (by kernel_rfl)
          refine wpOp_of_list rfl ?_
          refine w_fieldB (i := 1) (off := 1) (c := 1) (by kernel_rfl) rfl (.tmp 18) p rfl rfl e18 ?_
          exact ⟨_, rfl, rfl, Ext.refl _⟩
        · have e19 : b.tmps.getD 19 undef = .pointer (some ⟨p, 1, none⟩) := hdep 2 (by decide) (by decide) (by kernel_rfl)
          refine wpOp_of_list rfl ?_
          refine w_fload (.tmp 19) rfl rfl e19 (F0.ext hx) rfl (agg_of (by kernel_rfl)) ?_
          exact ⟨_, rfl, rfl, Ext.refl _⟩
        · have e1 : b.tmps.getD 1 undef = vx := hout 1 (by decide)
          refine wpOp_of_list rfl ?_
          refine w_mvC (.tmp 1) rfl (.inl rfl) e1 ?_
          exact ⟨_, rfl, rfl, Ext.refl _⟩
        · have e21 : b.tmps.getD 21 undef = vx := hdep 4 (by decide) (by decide) (by kernel_rfl)
          refine wpOp_of_list rfl ?_
          refine w_str (.tmp 21) rfl rfl e21 (B0.out.ext hx) ?_
          exact ⟨_, rfl, rfl, Ext.refl _⟩
        · have e20 : b.tmps.getD 20 undef = .map (some g1) := hdep 3 (by decide) (by decide) (by kernel_rfl)
          have e22 : b.tmps.getD 22 undef = .string (strN x) := hdep 5 (by decide) (by decide) (by kernel_rfl)
          refine wpOp_of_list rfl ?_
          refine wpList_runs rfl (runs_slook (ρ := b.eval) (w := w') (.tmp 20) (.tmp 22) rfl e20 e22 hlen.out (L0.out.ext hx)) ?_
          exact ⟨_, rfl, rfl, Ext.refl _⟩
        · have e23 : b.tmps.getD 23 undef = .tuple #[.agg #[], .bool true] := hdep 6 (by decide) (by decide) (by kernel_rfl)
          refine wpOp_of_list rfl ?_
          refine w_mvC (.tmp 23) rfl (.inl rfl) e23 ?_
          exact ⟨_, rfl, rfl, Ext.refl _⟩
        · have e16 : b.tmps.getD 16 undef = .tuple #[.agg #[], .bool true] := hdep 7 (by decide) (by decide) (by kernel_rfl)
          refine wpOp_of_list rfl ?_
          refine wpList_runs rfl (runs_extract (x := .tmp 16) rfl e16 rfl) ?_
          exact ⟨_, rfl, rfl, Ext.refl _⟩
        · have e16 : b.tmps.getD 16 undef = .tuple #[.agg #[], .bool true] := hdep 7 (by decide) (by decide) (by kernel_rfl)
          refine wpOp_of_list rfl ?_
          refine wpList_runs rfl (runs_extract (x := .tmp 16) rfl e16 rfl) ?_
          exact ⟨_, rfl, rfl, Ext.refl _⟩
        · have e25 : b.tmps.getD 25 undef = .bool true := hdep 9 (by decide) (by decide) (by kernel_rfl)
          refine wpOp_of_list rfl ?_
          refine w_mvC (.tmp 25) rfl (.inr rfl) e25 ?_
          exact ⟨_, rfl, rfl, Ext.refl _⟩
      · intro b w'
        refine wpOp_of_list rfl ?_
        refine w_allocN Try.stEN rfl rfl ?_
        intro g w2 hg hx f
        exact ⟨g, rfl, hg, hx, f⟩
      · intro b w' g hx e7 f hdep
        have e24 : b.tmps.getD 24 undef = .agg #[] := hdep 8 (by decide) (by decide) (by kernel_rfl)
        refine wpOp_of_list rfl ?_
        refine w_astoreN Try.stEN (.tmp 7) (.tmp 24) (us := []) rfl rfl rfl e7 e24 f rfl rfl (by intro u hu; simp at hu) ?_
        intro w2 hm f2
        exact ⟨_, rfl, hm, f2, rfl⟩
      intro w8 xx hx8 hv hc
      obtain ⟨g7, cs, eal, hg8, f7, rfl⟩ := hc
      have ek12 : xx 12 = .bool true := hv 12 (by decide) (by decide)
      simp only [List.foldl_cons, List.foldl_nil, eal, ek12]
      generalize xx 0 = x100
      generalize xx 1 = x101
      generalize xx 2 = x102
      generalize xx 3 = x103
      generalize xx 4 = x104
      generalize xx 5 = x105
      generalize xx 6 = x106
      generalize xx 7 = x107
      generalize xx 8 = x108
      generalize xx 9 = x109
      simp only [List.getD_cons_zero, List.getD_cons_succ, Act.put, List.setIfInBounds_toArray, List.set_cons_zero, List.set_cons_succ]
      clear hv eal ek12
      have hX8 := hX.trans hx8
      replace f4 := f4.ext hx8
      replace ou := hide_ (ou.out.ext TxR.stays hx8)
      replace hX := hX8
      clear hX8 hx8 f7 hg8 F0 B0 L0
      go_wp2
      go_ret
      exact Keep.intro ⟨by rw [hfin.out]; rfl, G, by rw [hfin.out]; exact hG.out.ext hX, GaN.ofExt hX⟩
    have hL := hide_ (h0.slook hx0 (q := false) (by simp [hs]))
    rw [if_neg hs] at hps
    by_cases hb : m.fm ∈ g.bad
    rotate_left
    · have hbad := hide_ (decide_eq_false hb)
      have hfin := hide_ (show g.pass x = (g, false) from by rw [hps, if_neg hb])
      clear h0 hx0 hl0 hv0 hfew0 hrd0 hm hps hs hb
      go_enter Try.func10, Try.ntmps10
      go_wp2_with ((first
        | go_big_skip
        | (go_at_call 22; refine (MRead_any hx256.out hlen.out (hv.out.ext hX)).mono ?_; rintro e w2 ⟨u, rfl, hx, ou0⟩; rw [hrd.out] at ou0 ⊢; rw [show omE (some m) = 0 from rfl, show mOr (some m) = m from rfl]; have ou := hide_ (show OwnT _ w2 u m.bk.txs from ou0); clear ou0; replace hX := hX.trans hx; clear hx)
        | ((with_reducible refine at_alloc ?_); refine w_agalloc Try.agMsg rfl rfl ?_; intro g4 w3 hg4 hx f4; have n4 := hide_ (fun k hk (e : k = g4) => (by have := ou.out.lt (k := k) hk; omega : False)); replace hg4 := Nat.le_trans hX.size hg4; replace ou := hide_ (ou.out.ext hx); replace hX := hX.trans hx; clear hx)
        | ((with_reducible refine at_store ?_); refine w_agput Try.agMsg (us := mRow m u) _ _ rfl rfl rfl rfl rfl f4 rfl rfl (m_one ou.out.recs.one') ?_; intro w4 hm4 f5; replace f4 := f5; replace ou := hide_ (ou.out.mod hm4 (fun k hk => n4.out k hk)).recs; replace hX := hm4.after hX (fun i e => e ▸ hg4); clear hm4 f5 n4 hg4)
        | fail) <;> (try simp only [Act.put, List.setIfInBounds_toArray, List.set_cons_zero, List.set_cons_succ]))
      have F0 := hG.out.obj.ext hX; have B0 := hide_ (hv.out.ext hX); have L0 := hide_ (hL.out.ext hX)
      refine wp_region_val [0, 1, 2, 3, 4, 5, 6, 7, 8, 9, 10, 12] (fun i => ([17, 18, 19, 20, 21, 22, 23, 16, 24, 25, 7, 0, 8] : List Nat).getD i 0) (fun i xx => xx = ([(.pointer (some ⟨p, 0, none⟩)), (.pointer (some ⟨p, 0, none⟩)), (.pointer (some ⟨p, 1, none⟩)), (.map (some g1)), (vx), (.string (strN x)), (.tuple #[.agg #[], .bool false]), (.tuple #[.agg #[], .bool false]), (.agg #[]), (.bool false), undef, undef, (.bool false)] : List Value).getD i undef) 10 11 [] (fun cs => cs = []) (by kernel_rfl) (by kernel_rfl) (by kernel_rfl) (by decide) (by decide) (by kernel_rfl) (by intro i hi; show _ < 41; revert i; decide) (by kernel_rfl) (by decide) (by kernel_rfl) ?_ ?_ ?_ ?_
      · intro i hi ha b w' hx hout hdep
        rcases (show i = 0 ∨ i = 1 ∨ i = 2 ∨ i = 3 ∨ i = 4 ∨ i = 5 ∨ i = 6 ∨ i = 7 ∨ i = 8 ∨ i = 9 ∨ i = 12 by simp at hi; omega) with rfl | rfl | rfl | rfl | rfl | rfl | rfl | rfl | rfl | rfl | rfl
        · have e0 : b.tmps.getD 0 undef = .pointer (some ⟨p, 0, none⟩) := hout 0 (by decide)
          refine wpOp_of_list rfl ?_
          refine w_mvC (.tmp 0) rfl (.inl rfl) e0 ?_
          exact ⟨_, rfl, rfl, Ext.refl _⟩
        · have e17 : b.tmps.getD 17 undef = .pointer (some ⟨p, 0, none⟩) := hdep 0 (by decide) (by decide) (by kernel_rfl)
          refine wpOp_of_list rfl ?_
          refine w_nilC _ rfl rfl e17 ?_
          exact ⟨_, rfl, rfl, Ext.refl _⟩
        · have e18 : b.tmps.getD 18 undef = .pointer (some ⟨p, 0, none⟩) := hdep 1 (by decide) (by decide) (by kernel_rfl)
          refine wpOp_of_list rfl ?_
          refine w_fieldB (i := 1) (off := 1) (c := 1) (by kernel_rfl) rfl (.tmp 18) p rfl rfl e18 ?_
          exact ⟨_, rfl, rfl, Ext.refl _⟩
        · have e19 : b.tmps.getD 19 undef = .pointer (some ⟨p, 1, none⟩) := hdep 2 (by decide) (by decide) (by kernel_rfl)
          refine wpOp_of_list rfl ?_
          refine w_fload (.tmp 19) rfl rfl e19 (F0.ext hx) rfl (agg_of (by kernel_rfl)) ?_
          exact ⟨_, rfl, rfl, Ext.refl _⟩
        · have e1 : b.tmps.getD 1 undef = vx := hout 1 (by decide)
          refine wpOp_of_list rfl ?_
          refine w_mvC (.tmp 1) rfl (.inl rfl) e1 ?_
          exact ⟨_, rfl, rfl, Ext.refl _⟩
        · have e21 : b.tmps.getD 21 undef = vx := hdep 4 (by decide) (by decide) (by kernel_rfl)
          refine wpOp_of_list rfl ?_
          refine w_str (.tmp 21) rfl rfl e21 (B0.out.ext hx) ?_
          exact ⟨_, rfl, rfl, Ext.refl _⟩
        · have e20 : b.tmps.getD 20 undef = .map (some g1) := hdep 3 (by decide) (by decide) (by kernel_rfl)
          have e22 : b.tmps.getD 22 undef = .string (strN x) := hdep 5 (by decide) (by decide) (by kernel_rfl)
          refine wpOp_of_list rfl ?_
          refine wpList_runs rfl (runs_slook (ρ := b.eval) (w := w') (.tmp 20) (.tmp 22) rfl e20 e22 hlen.out (L0.out.ext hx)) ?_
          exact ⟨_, rfl, rfl, Ext.refl _⟩
        · have e23 : b.tmps.getD 23 undef = .tuple #[.agg #[], .bool false] := hdep 6 (by decide) (by decide) (by kernel_rfl)
          refine wpOp_of_list rfl ?_
          refine w_mvC (.tmp 23) rfl (.inl rfl) e23 ?_
          exact ⟨_, rfl, rfl, Ext.refl _⟩
        · have e16 : b.tmps.getD 16 undef = .tuple #[.agg #[], .bool false] := hdep 7 (by decide) (by decide) (by kernel_rfl)
          refine wpOp_of_list rfl ?_
          refine wpList_runs rfl (runs_extract (x := .tmp 16) rfl e16 rfl) ?_
          exact ⟨_, rfl, rfl, Ext.refl _⟩
        · have e16 : b.tmps.getD 16 undef = .tuple #[.agg #[], .bool false] := hdep 7 (by decide) (by decide) (by kernel_rfl)
          refine wpOp_of_list rfl ?_
          refine wpList_runs rfl (runs_extract (x := .tmp 16) rfl e16 rfl) ?_
          exact ⟨_, rfl, rfl, Ext.refl _⟩
        · have e25 : b.tmps.getD 25 undef = .bool false := hdep 9 (by decide) (by decide) (by kernel_rfl)
          refine wpOp_of_list rfl ?_
          refine w_mvC (.tmp 25) rfl (.inr rfl) e25 ?_
          exact ⟨_, rfl, rfl, Ext.refl _⟩
      · intro b w'
        refine wpOp_of_list rfl ?_
        refine w_allocN Try.stEN rfl rfl ?_
        intro g w2 hg hx f
        exact ⟨g, rfl, hg, hx, f⟩
      · intro b w' g hx e7 f hdep
        have e24 : b.tmps.getD 24 undef = .agg #[] := hdep 8 (by decide) (by decide) (by kernel_rfl)
        refine wpOp_of_list rfl ?_
        refine w_astoreN Try.stEN (.tmp 7) (.tmp 24) (us := []) rfl rfl rfl e7 e24 f rfl rfl (by intro u hu; simp at hu) ?_
        intro w2 hm f2
        exact ⟨_, rfl, hm, f2, rfl⟩
      intro w8 xx hx8 hv hc
      obtain ⟨g7, cs, eal, hg8, f7, rfl⟩ := hc
      have ek12 : xx 12 = .bool false := hv 12 (by decide) (by decide)
      simp only [List.foldl_cons, List.foldl_nil, eal, ek12]
      generalize xx 0 = x100
      generalize xx 1 = x101
      generalize xx 2 = x102
      generalize xx 3 = x103
      generalize xx 4 = x104
      generalize xx 5 = x105
      generalize xx 6 = x106
      generalize xx 7 = x107
      generalize xx 8 = x108
      generalize xx 9 = x109
      simp only [List.getD_cons_zero, List.getD_cons_succ, Act.put, List.setIfInBounds_toArray, List.set_cons_zero, List.set_cons_succ]
      clear hv eal ek12
      have hX8 := hX.trans hx8
      replace f4 := f4.ext hx8
      replace ou := hide_ (ou.out.ext TxR.stays hx8)
      replace hX := hX8
      clear hX8 hx8 f7 hg8 F0 B0 L0
      go_wp2_with ((first
        | go_big_skip
        | ((with_reducible refine at_field ?_); (try refine w_yes _ _ _ rfl rfl rfl ?_); refine w_mfield _ _ _ rfl rfl rfl (by omega) ?_)
        | ((with_reducible refine at_load ?_); (try refine w_yes _ _ _ rfl rfl rfl ?_); refine w_fload _ rfl rfl rfl f4 rfl (agg_of (by kernel_rfl)) ?_)
        | (go_at_call 11; refine (GBad_any (hG.out.ext hX) m.fm).mono ?_; rintro e w6 ⟨rfl, hx⟩; rw [hbad.out]; replace f4 := f4.ext hx; replace ou := hide_ (ou.out.ext TxR.stays hx); replace hX := hX.trans hx; clear hx)
        | fail) <;> (try simp only [Act.put, List.setIfInBounds_toArray, List.set_cons_zero, List.set_cons_succ]))
      go_ret
      exact Keep.intro ⟨by rw [hfin.out]; rfl, G, by rw [hfin.out]; exact hG.out.ext hX, GaN.ofExt hX⟩
    have hbad := hide_ (decide_eq_true hb)
    rw [if_pos hb] at hps
    by_cases hk : m.kd = 1
    · have t1 : (m.kd != 1) = false := by simp [hk]
      have t2 : (m.kd == 1) = true := by simp [hk]
      have hbr := hide_ (hm.bkOk hk)
      have hfin := hide_ (show g.pass x = g.passB m.bk from by rw [hps, if_pos hk])
      clear h0 hx0 hl0 hv0 hfew0 hrd0 hm hps hs hb hk
      go_enter Try.func10, Try.ntmps10
      go_wp2_with ((first
        | go_big_skip
        | (go_at_call 22; refine (MRead_any hx256.out hlen.out (hv.out.ext hX)).mono ?_; rintro e w2 ⟨u, rfl, hx, ou0⟩; rw [hrd.out] at ou0 ⊢; rw [show omE (some m) = 0 from rfl, show mOr (some m) = m from rfl]; have ou := hide_ (show OwnT _ w2 u m.bk.txs from ou0); clear ou0; replace hX := hX.trans hx; clear hx)
        | ((with_reducible refine at_alloc ?_); refine w_agalloc Try.agMsg rfl rfl ?_; intro g4 w3 hg4 hx f4; have n4 := hide_ (fun k hk (e : k = g4) => (by have := ou.out.lt (k := k) hk; omega : False)); replace hg4 := Nat.le_trans hX.size hg4; replace ou := hide_ (ou.out.ext hx); replace hX := hX.trans hx; clear hx)
        | ((with_reducible refine at_store ?_); refine w_agput Try.agMsg (us := mRow m u) _ _ rfl rfl rfl rfl rfl f4 rfl rfl (m_one ou.out.recs.one') ?_; intro w4 hm4 f5; replace f4 := f5; replace ou := hide_ (ou.out.mod hm4 (fun k hk => n4.out k hk)).recs; replace hX := hm4.after hX (fun i e => e ▸ hg4); clear hm4 f5 n4 hg4)
        | fail) <;> (try simp only [Act.put, List.setIfInBounds_toArray, List.set_cons_zero, List.set_cons_succ]))
      have F0 := hG.out.obj.ext hX; have B0 := hide_ (hv.out.ext hX); have L0 := hide_ (hL.out.ext hX)
      refine wp_region_val [0, 1, 2, 3, 4, 5, 6, 7, 8, 9, 10, 12] (fun i => ([17, 18, 19, 20, 21, 22, 23, 16, 24, 25, 7, 0, 8] : List Nat).getD i 0) (fun i xx => xx = ([(.pointer (some ⟨p, 0, none⟩)), (.pointer (some ⟨p, 0, none⟩)), (.pointer (some ⟨p, 1, none⟩)), (.map (some g1)), (vx), (.string (strN x)), (.tuple #[.agg #[], .bool false]), (.tuple #[.agg #[], .bool false]), (.agg #[]), (.bool false), undef, undef, (.bool false)] : List Value).getD i undef) 10 11 [] (fun cs => cs = []) (by kernel_rfl) (by kernel_rfl) (by kernel_rfl) (by decide) (by decide) (by kernel_rfl) (by intro i hi; show _ < 41; revert i; decide) (by kernel_rfl) (by decide) (by kernel_rfl) ?_ ?_ ?_ ?_
      · intro i hi ha b w' hx hout hdep
        rcases (show i = 0 ∨ i = 1 ∨ i = 2 ∨ i = 3 ∨ i = 4 ∨ i = 5 ∨ i = 6 ∨ i = 7 ∨ i = 8 ∨ i = 9 ∨ i = 12 by simp at hi; omega) with rfl | rfl | rfl | rfl | rfl | rfl | rfl | rfl | rfl | rfl | rfl
        · have e0 : b.tmps.getD 0 undef = .pointer (some ⟨p, 0, none⟩) := hout 0 (by decide)
          refine wpOp_of_list rfl ?_
          refine w_mvC (.tmp 0) rfl (.inl rfl) e0 ?_
          exact ⟨_, rfl, rfl, Ext.refl _⟩
        · have e17 : b.tmps.getD 17 undef = .pointer (some ⟨p, 0, none⟩) := hdep 0 (by decide) (by decide) (by kernel_rfl)
          refine wpOp_of_list rfl ?_
          refine w_nilC _ rfl rfl e17 ?_
          exact ⟨_, rfl, rfl, Ext.refl _⟩
        · have e18 : b.tmps.getD 18 undef = .pointer (some ⟨p, 0, none⟩) := hdep 1 (by decide) (by decide) (by kernel_rfl)
          refine wpOp_of_list rfl ?_
          refine w_fieldB (i := 1) (off := 1) (c := 1) (by kernel_rfl) rfl (.tmp 18) p rfl rfl e18 ?_
          exact ⟨_, rfl, rfl, Ext.refl _⟩
        · have e19 : b.tmps.getD 19 undef = .pointer (some ⟨p, 1, none⟩) := hdep 2 (by decide) (by decide) (by kernel_rfl)
          refine wpOp_of_list rfl ?_
          refine w_fload (.tmp 19) rfl rfl e19 (F0.ext hx) rfl (agg_of (by kernel_rfl)) ?_
          exact ⟨_, rfl, rfl, Ext.refl _⟩
        · have e1 : b.tmps.getD 1 undef = vx := hout 1 (by decide)
          refine wpOp_of_list rfl ?_
          refine w_mvC (.tmp 1) rfl (.inl rfl) e1 ?_
          exact ⟨_, rfl, rfl, Ext.refl _⟩
        · have e21 : b.tmps.getD 21 undef = vx := hdep 4 (by decide) (by decide) (by kernel_rfl)
          refine wpOp_of_list rfl ?_
          refine w_str (.tmp 21) rfl rfl e21 (B0.out.ext hx) ?_
          exact ⟨_, rfl, rfl, Ext.refl _⟩
        · have e20 : b.tmps.getD 20 undef = .map (some g1) := hdep 3 (by decide) (by decide) (by kernel_rfl)
          have e22 : b.tmps.getD 22 undef = .string (strN x) := hdep 5 (by decide) (by decide) (by kernel_rfl)
          refine wpOp_of_list rfl ?_
          refine wpList_runs rfl (runs_slook (ρ := b.eval) (w := w') (.tmp 20) (.tmp 22) rfl e20 e22 hlen.out (L0.out.ext hx)) ?_
          exact ⟨_, rfl, rfl, Ext.refl _⟩
        · have e23 : b.tmps.getD 23 undef = .tuple #[.agg #[], .bool false] := hdep 6 (by decide) (by decide) (by kernel_rfl)
          refine wpOp_of_list rfl ?_
          refine w_mvC (.tmp 23) rfl (.inl rfl) e23 ?_
          exact ⟨_, rfl, rfl, Ext.refl _⟩
        · have e16 : b.tmps.getD 16 undef = .tuple #[.agg #[], .bool false] := hdep 7 (by decide) (by decide) (by kernel_rfl)
          refine wpOp_of_list rfl ?_
          refine wpList_runs rfl (runs_extract (x := .tmp 16) rfl e16 rfl) ?_
          exact ⟨_, rfl, rfl, Ext.refl _⟩
        · have e16 : b.tmps.getD 16 undef = .tuple #[.agg #[], .bool false] := hdep 7 (by decide) (by decide) (by kernel_rfl)
          refine wpOp_of_list rfl ?_
          refine wpList_runs rfl (runs_extract (x := .tmp 16) rfl e16 rfl) ?_
          exact ⟨_, rfl, rfl, Ext.refl _⟩
        · have e25 : b.tmps.getD 25 undef = .bool false := hdep 9 (by decide) (by decide) (by kernel_rfl)
          refine wpOp_of_list rfl ?_
          refine w_mvC (.tmp 25) rfl (.inr rfl) e25 ?_
          exact ⟨_, rfl, rfl, Ext.refl _⟩
      · intro b w'
        refine wpOp_of_list rfl ?_
        refine w_allocN Try.stEN rfl rfl ?_
        intro g w2 hg hx f
        exact ⟨g, rfl, hg, hx, f⟩
      · intro b w' g hx e7 f hdep
        have e24 : b.tmps.getD 24 undef = .agg #[] := hdep 8 (by decide) (by decide) (by kernel_rfl)
        refine wpOp_of_list rfl ?_
        refine w_astoreN Try.stEN (.tmp 7) (.tmp 24) (us := []) rfl rfl rfl e7 e24 f rfl rfl (by intro u hu; simp at hu) ?_
        intro w2 hm f2
        exact ⟨_, rfl, hm, f2, rfl⟩
      intro w8 xx hx8 hv hc
      obtain ⟨g7, cs, eal, hg8, f7, rfl⟩ := hc
      have ek12 : xx 12 = .bool false := hv 12 (by decide) (by decide)
      simp only [List.foldl_cons, List.foldl_nil, eal, ek12]
      generalize xx 0 = x100
      generalize xx 1 = x101
      generalize xx 2 = x102
      generalize xx 3 = x103
      generalize xx 4 = x104
      generalize xx 5 = x105
      generalize xx 6 = x106
      generalize xx 7 = x107
      generalize xx 8 = x108
      generalize xx 9 = x109
      simp only [List.getD_cons_zero, List.getD_cons_succ, Act.put, List.setIfInBounds_toArray, List.set_cons_zero, List.set_cons_succ]
      clear hv eal ek12
      have hX8 := hX.trans hx8
      replace f4 := f4.ext hx8
      replace ou := hide_ (ou.out.ext TxR.stays hx8)
      replace hX := hX8
      clear hX8 hx8 f7 hg8 F0 B0 L0
      go_wp2_with ((first
        | go_big_skip
        | ((with_reducible refine at_field ?_); (try refine w_yes _ _ _ rfl rfl rfl ?_); refine w_mfield _ _ _ rfl rfl rfl (by omega) ?_)
        | ((with_reducible refine at_load ?_); (try refine w_yes _ _ _ rfl rfl rfl ?_); refine w_loadN Try.stBlkM _ (bRw m.bk u) rfl rfl rfl f4 rfl (mbk_at m u) ?_)
        | ((with_reducible refine at_load ?_); (try refine w_yes _ _ _ rfl rfl rfl ?_); refine w_fload _ rfl rfl rfl f4 rfl (agg_of (by kernel_rfl)) ?_)
        | (go_at_call 11; refine (GBad_any (hG.out.ext hX) m.fm).mono ?_; rintro e w6 ⟨rfl, hx⟩; rw [hbad.out]; replace f4 := f4.ext hx; replace ou := hide_ (ou.out.ext TxR.stays hx); replace hX := hX.trans hx; clear hx)
        | (go_at_call 23; refine (passBlock_any (hG.out.ext hX) hbr.out ou.out hpar.out hfew.out.2).mono ?_; rintro e w8 ⟨rfl, G', hGA, hNA⟩; replace hGA := hide_ hGA; replace hNA := hide_ hNA)
        | fail) <;> (try simp only [Act.put, List.setIfInBounds_toArray, List.set_cons_zero, List.set_cons_succ]))
      go_ret
      exact Keep.intro ⟨by rw [hfin.out]; rfl, G', by rw [hfin.out]; exact hGA.out, (GaN.ofExt hX).trans hNA.out⟩
    · have t1 : (m.kd != 1) = true := by simp [hk]
      have t2 : (m.kd == 1) = false := by simp [hk]
      have hfin := hide_ (show g.pass x = (g, true) from by rw [hps, if_neg hk])
      clear h0 hx0 hl0 hv0 hfew0 hrd0 hm hps hs hb hk
      go_enter Try.func10, Try.ntmps10
      go_wp2_with ((first
        | go_big_skip
        | (go_at_call 22; refine (MRead_any hx256.out hlen.out (hv.out.ext hX)).mono ?_; rintro e w2 ⟨u, rfl, hx, ou0⟩; rw [hrd.out] at ou0 ⊢; rw [show omE (some m) = 0 from rfl, show mOr (some m) = m from rfl]; have ou := hide_ (show OwnT _ w2 u m.bk.txs from ou0); clear ou0; replace hX := hX.trans hx; clear hx)
        | ((with_reducible refine at_alloc ?_); refine w_agalloc Try.agMsg rfl rfl ?_; intro g4 w3 hg4 hx f4; have n4 := hide_ (fun k hk (e : k = g4) => (by have := ou.out.lt (k := k) hk; omega : False)); replace hg4 := Nat.le_trans hX.size hg4; replace ou := hide_ (ou.out.ext hx); replace hX := hX.trans hx; clear hx)
        | ((with_reducible refine at_store ?_); refine w_agput Try.agMsg (us := mRow m u) _ _ rfl rfl rfl rfl rfl f4 rfl rfl (m_one ou.out.recs.one') ?_; intro w4 hm4 f5; replace f4 := f5; replace ou := hide_ (ou.out.mod hm4 (fun k hk => n4.out k hk)).recs; replace hX := hm4.after hX (fun i e => e ▸ hg4); clear hm4 f5 n4 hg4)
        | fail) <;> (try simp only [Act.put, List.setIfInBounds_toArray, List.set_cons_zero, List.set_cons_succ]))
      have F0 := hG.out.obj.ext hX; have B0 := hide_ (hv.out.ext hX); have L0 := hide_ (hL.out.ext hX)
      refine wp_region_val [0, 1, 2, 3, 4, 5, 6, 7, 8, 9, 10, 12] (fun i => ([17, 18, 19, 20, 21, 22, 23, 16, 24, 25, 7, 0, 8] : List Nat).getD i 0) (fun i xx => xx = ([(.pointer (some ⟨p, 0, none⟩)), (.pointer (some ⟨p, 0, none⟩)), (.pointer (some ⟨p, 1, none⟩)), (.map (some g1)), (vx), (.string (strN x)), (.tuple #[.agg #[], .bool false]), (.tuple #[.agg #[], .bool false]), (.agg #[]), (.bool false), undef, undef, (.bool false)] : List Value).getD i undef) 10 11 [] (fun cs => cs = []) (by kernel_rfl) (by kernel_rfl) (by kernel_rfl) (by decide) (by decide) (by kernel_rfl) (by intro i hi; show _ < 41; revert i; decide) (by kernel_rfl) (by decide) (by kernel_rfl) ?_ ?_ ?_ ?_
      · intro i hi ha b w' hx hout hdep
        rcases (show i = 0 ∨ i = 1 ∨ i = 2 ∨ i = 3 ∨ i = 4 ∨ i = 5 ∨ i = 6 ∨ i = 7 ∨ i = 8 ∨ i = 9 ∨ i = 12 by simp at hi; omega) with rfl | rfl | rfl | rfl | rfl | rfl | rfl | rfl | rfl | rfl | rfl
        · have e0 : b.tmps.getD 0 undef = .pointer (some ⟨p, 0, none⟩) := hout 0 (by decide)
          refine wpOp_of_list rfl ?_
          refine w_mvC (.tmp 0) rfl (.inl rfl) e0 ?_
          exact ⟨_, rfl, rfl, Ext.refl _⟩
        · have e17 : b.tmps.getD 17 undef = .pointer (some ⟨p, 0, none⟩) := hdep 0 (by decide) (by decide) (by kernel_rfl)
          refine wpOp_of_list rfl ?_
          refine w_nilC _ rfl rfl e17 ?_
          exact ⟨_, rfl, rfl, Ext.refl _⟩
        · have e18 : b.tmps.getD 18 undef = .pointer (some ⟨p, 0, none⟩) := hdep 1 (by decide) (by decide) (by kernel_rfl)
          refine wpOp_of_list rfl ?_
          refine w_fieldB (i := 1) (off := 1) (c := 1) (by kernel_rfl) rfl (.tmp 18) p rfl rfl e18 ?_
          exact ⟨_, rfl, rfl, Ext.refl _⟩
        · have e19 : b.tmps.getD 19 undef = .pointer (some ⟨p, 1, none⟩) := hdep 2 (by decide) (by decide) (by kernel_rfl)
          refine wpOp_of_list rfl ?_
          refine w_fload (.tmp 19) rfl rfl e19 (F0.ext hx) rfl (agg_of (by kernel_rfl)) ?_
          exact ⟨_, rfl, rfl, Ext.refl _⟩
        · have e1 : b.tmps.getD 1 undef = vx := hout 1 (by decide)
          refine wpOp_of_list rfl ?_
          refine w_mvC (.tmp 1) rfl (.inl rfl) e1 ?_
          exact ⟨_, rfl, rfl, Ext.refl _⟩
        · have e21 : b.tmps.getD 21 undef = vx := hdep 4 (by decide) (by decide) (by kernel_rfl)
          refine wpOp_of_list rfl ?_
          refine w_str (.tmp 21) rfl rfl e21 (B0.out.ext hx) ?_
          exact ⟨_, rfl, rfl, Ext.refl _⟩
        · have e20 : b.tmps.getD 20 undef = .map (some g1) := hdep 3 (by decide) (by decide) (by kernel_rfl)
          have e22 : b.tmps.getD 22 undef = .string (strN x) := hdep 5 (by decide) (by decide) (by kernel_rfl)
          refine wpOp_of_list rfl ?_
          refine wpList_runs rfl (runs_slook (ρ := b.eval) (w := w') (.tmp 20) (.tmp 22) rfl e20 e22 hlen.out (L0.out.ext hx)) ?_
          exact ⟨_, rfl, rfl, Ext.refl _⟩
        · have e23 : b.tmps.getD 23 undef = .tuple #[.agg #[], .bool false] := hdep 6 (by decide) (by decide) (by kernel_rfl)
          refine wpOp_of_list rfl ?_
          refine w_mvC (.tmp 23) rfl (.inl rfl) e23 ?_
          exact ⟨_, rfl, rfl, Ext.refl _⟩
        · have e16 : b.tmps.getD 16 undef = .tuple #[.agg #[], .bool false] := hdep 7 (by decide) (by decide) (by kernel_rfl)
          refine wpOp_of_list rfl ?_
          refine wpList_runs rfl (runs_extract (x := .tmp 16) rfl e16 rfl) ?_
          exact ⟨_, rfl, rfl, Ext.refl _⟩
        · have e16 : b.tmps.getD 16 undef = .tuple #[.agg #[], .bool false] := hdep 7 (by decide) (by decide) (by kernel_rfl)
          refine wpOp_of_list rfl ?_
          refine wpList_runs rfl (runs_extract (x := .tmp 16) rfl e16 rfl) ?_
          exact ⟨_, rfl, rfl, Ext.refl _⟩
        · have e25 : b.tmps.getD 25 undef = .bool false := hdep 9 (by decide) (by decide) (by kernel_rfl)
          refine wpOp_of_list rfl ?_
          refine w_mvC (.tmp 25) rfl (.inr rfl) e25 ?_
          exact ⟨_, rfl, rfl, Ext.refl _⟩
      · intro b w'
        refine wpOp_of_list rfl ?_
        refine w_allocN Try.stEN rfl rfl ?_
        intro g w2 hg hx f
        exact ⟨g, rfl, hg, hx, f⟩
      · intro b w' g hx e7 f hdep
        have e24 : b.tmps.getD 24 undef = .agg #[] := hdep 8 (by decide) (by decide) (by kernel_rfl)
        refine wpOp_of_list rfl ?_
        refine w_astoreN Try.stEN (.tmp 7) (.tmp 24) (us := []) rfl rfl rfl e7 e24 f rfl rfl (by intro u hu; simp at hu) ?_
        intro w2 hm f2
        exact ⟨_, rfl, hm, f2, rfl⟩
      intro w8 xx hx8 hv hc
      obtain ⟨g7, cs, eal, hg8, f7, rfl⟩ := hc
      have ek12 : xx 12 = .bool false := hv 12 (by decide) (by decide)
      simp only [List.foldl_cons, List.foldl_nil, eal, ek12]
      generalize xx 0 = x100
      generalize xx 1 = x101
      generalize xx 2 = x102
      generalize xx 3 = x103
      generalize xx 4 = x104
      generalize xx 5 = x105
      generalize xx 6 = x106
      generalize xx 7 = x107
      generalize xx 8 = x108
      generalize xx 9 = x109
      simp only [List.getD_cons_zero, List.getD_cons_succ, Act.put, List.setIfInBounds_toArray, List.set_cons_zero, List.set_cons_succ]
      clear hv eal ek12
      have hX8 := hX.trans hx8
      replace f4 := f4.ext hx8
      replace ou := hide_ (ou.out.ext TxR.stays hx8)
      replace hX := hX8
      clear hX8 hx8 f7 hg8 F0 B0 L0
      go_wp2_with ((first
        | go_big_skip
        | ((with_reducible refine at_field ?_); (try refine w_yes _ _ _ rfl rfl rfl ?_); refine w_mfield _ _ _ rfl rfl rfl (by omega) ?_)
        | ((with_reducible refine at_load ?_); (try refine w_yes _ _ _ rfl rfl rfl ?_); refine w_loadN Try.stBlkM _ (bRw m.bk u) rfl rfl rfl f4 rfl (mbk_at m u) ?_)
        | ((with_reducible refine at_load ?_); (try refine w_yes _ _ _ rfl rfl rfl ?_); refine w_fload _ rfl rfl rfl f4 rfl (agg_of (by kernel_rfl)) ?_)
        | (go_at_call 11; refine (GBad_any (hG.out.ext hX) m.fm).mono ?_; rintro e w6 ⟨rfl, hx⟩; rw [hbad.out]; replace f4 := f4.ext hx; replace ou := hide_ (ou.out.ext TxR.stays hx); replace hX := hX.trans hx; clear hx)
        | fail) <;> (try simp only [Act.put, List.setIfInBounds_toArray, List.set_cons_zero, List.set_cons_succ]))
      go_ret
      exact Keep.intro ⟨by rw [hfin.out]; rfl, G, by rw [hfin.out]; exact hG.out.ext hX, GaN.ofExt hX⟩
end Go.Proofs.Ytgbhbifdfcfamaa
