/- A message comes. · A tick comes. · A new core. · The contract of neaptideref01.SameInts, of two slices that read alike: true. -/
import Derived.Test.YtajkjiegcmpjaaaGreatPk17
import Derived.Test.YtajkjiegcmpjaaaGreatPk03
namespace Go.Proofs.YtajkjiegcmpjaaaGreat
set_option maxHeartbeats 3200000
set_option maxRecDepth 100000
open Go.RowKit
section
variable {S S' : Nat → Nat} {w w1 w' : World} {p q gp gs : Nat} {sv dv kv : Value} {c : CoD}
theorem Stp.pre {lo hi : Nat} (hx : Ext w w1) (h : Stp lo hi S S' w1 w') : Stp lo hi S S' w w' := ⟨(hx.mod fun k => lo ≤ S k ∧ S k ≤ hi).trans h.mod fun _ _ e => e, fun k hk => h.same k (Nat.lt_of_lt_of_le hk hx.size), h.bnd⟩
theorem CorW.low {sv' dv' : Value} {q' gp' gs' : Nat} (h : CorW S' w' p sv' dv' q' gp' gs' c) (h6 : ∀ k, S k ≤ 6) (hs : Stp 1 6 S S' w w') : ∃ S2, CorW S2 w' p sv' dv' q' gp' gs' c ∧ Stp 1 6 S S2 w w' ∧ ∀ k, S2 k ≤ 6 := by
  have hb : ∀ k, (if S' k ≤ 6 then S' k else 0) ≠ 0 → k < w'.heap.size := fun k hk => by
    split at hk
    · exact h.bnd k hk
    · exact absurd rfl hk
  refine ⟨fun k => if S' k ≤ 6 then S' k else 0, h.relab (fun k _ h2 => if_pos h2) hb, ⟨hs.mod, fun k hk => ?_, hb⟩, fun k => ?_⟩
  · show (if S' k ≤ 6 then S' k else 0) = S k
    rw [hs.same k hk, if_pos (h6 k)]
  · show (if S' k ≤ 6 then S' k else 0) ≤ 6
    split <;> omega
theorem ks_stp (hk : ∀ k, kv.ownBlock = some k → k < w.heap.size ∧ S k = 0) {lo hi : Nat} (hs : Stp lo hi S S' w w') : ∀ k, kv.ownBlock = some k → k < w'.heap.size ∧ S' k = 0 := fun k h => by
  obtain ⟨h1, h2⟩ := hk k h
  exact ⟨Nat.lt_of_lt_of_le h1 hs.size, by rw [hs.same k h1]; exact h2⟩
theorem CorW.outs (h : CorW S w p sv dv q gp gs c) (o : List AcV) : CorW S w p sv dv q gp gs { c with out := o } := ⟨h.obj, h.lab, h.stk, h.sto, h.dec, h.tal, h.prp, h.sad, h.bnd, h.lft, h.me⟩
theorem Cor.outs (h : Cor S w p c) (o : List AcV) : Cor S w p { c with out := o } := by
  obtain ⟨sv, dv, q, gp, gs, h⟩ := h
  exact ⟨sv, dv, q, gp, gs, h.outs o⟩
theorem Cor.flush (h : Cor S w p c) : Cor S w p c.flush := h.outs []
end
theorem hear_out (c : CoD) (m : MsV) : (c.hear m).out = c.out := by
  unfold CoD.hear
  split
  · split <;> rfl
  · split
    · split <;> rfl
    · rfl
theorem mu_room (c : CoD) (h : 0 ≤ c.view) (hs : 0 ≤ c.step) : c.mu ≤ 10018015 := by
  unfold CoD.mu CoD.muV
  have h1 : (1001 - c.dec.length) * 10000 ≤ 1001 * 10000 := Nat.mul_le_mul_right _ (by omega)
  have h2 : (1000 - c.view).toNat ≤ 1000 := by omega
  have h3 : (3 - c.step).toNat ≤ 3 := by omega
  split <;> omega
theorem mu_len {c : CoD} (h : 0 ≤ c.view) (hs : 0 ≤ c.step) {n : Nat} (hn : n ≤ 4) : (n + c.mu + 1) * 128 ≤ 140737488355328 := by
  have := mu_room c h hs
  exact Nat.le_trans (Nat.mul_le_mul_right 128 (show n + c.mu + 1 ≤ 10018020 by generalize c.mu = m at this ⊢; omega)) (by decide)
theorem handle_core {S : Nat → Nat} {w : World} {p q gp gs : Nat} {sv dv kv : Value} {kn : List Int} {c : CoD} {d : MsgD} {u : Value} {i0 : Int} (h : CorW S w p sv dv q gp gs c) (h6 : ∀ k, S k ≤ 6) (hsp0 : Spk NV i0 c) (ho : c.out = []) (hR : 3 ≤ d.kd → d.msv.Ok NV) (hf0 : 0 ≤ d.fm) (hk6 : d.kd ≤ 6) (hk0 : Ints w kv kn) (hks0 : ∀ k, kv.ownBlock = some k → k < w.heap.size ∧ S k = 0) :
    Calls Tryz.prog 10 #[.pointer (some ⟨p, 0, none⟩), .agg (mRow d u).toArray, kv] w fun e w' => ∃ S' ov, e = .returned ov ∧ Cor S' w' p (c.handle d.msv kn) ∧ (∀ k, S' k ≤ 6) ∧ RowN (fun k => w.heap.size ≤ k ∧ S' k = 0) w' 53 14 ov ((c.handle d.msv kn).out.map acRow) ∧ (∀ k, ov.ownBlock = some k → w.heap.size ≤ k ∧ S' k = 0) ∧ Stp 1 6 S S' w w' := by
  refine z30z ?_
  have hC := hide_ h
  have hX := Ext.refl w
  have hS6 := hide_ h6
  have hout := hide_ ho
  have hkv := hide_ hk0
  have hks := hide_ hks0
  obtain ⟨nd, hnd0⟩ : ∃ b, decide (0 ≤ d.fm ∧ d.fm < (c.t.length : Int)) = b := ⟨_, rfl⟩
  have hnd := hide_ hnd0
  cases nd with
  | false =>
    have hfin := hide_ (show c.handle d.msv kn = c from by
      unfold CoD.handle
      rw [if_pos (.inr (.inl (show (c.t.length : Int) ≤ d.fm by have := of_decide_eq_false hnd0; omega)))])
    clear h h6 hsp0 ho hR hf0 hk6 hk0 hks0 hnd0
    go_enter Tryz.func10, Tryz.ntmps10
    go_wp2_with ((first | go_big_skip | (refine z23z ?_; intro g4 w1 hg40 hx f4; have hg4 := hide_ (Nat.le_trans hX.size hg40); clear hg40; replace hX := hX.trans hx; clear hx) | (go_at_call 26; refine (isNode_core (hC.out.ext hX) hnd.out).mono ?_; rintro e w2 ⟨rfl, hx⟩; replace f4 := f4.ext hx; replace hX := hX.trans hx; clear hx) | refine z2uz ?_ | fail) <;> (try refine z1z ?_))
    go_ret
    exact z2rz
  | true =>
  have hnd1 := of_decide_eq_true hnd0
  by_cases hk3 : d.kd < 3
  · have t3 : decide (d.kd < 3) = true := decide_eq_true hk3
    have hfin := hide_ (show c.handle d.msv kn = c from by
      unfold CoD.handle
      rw [if_pos (.inl hk3)])
    clear h h6 hsp0 ho hR hf0 hk6 hk0 hks0 hnd0 hnd1 hk3
    go_enter Tryz.func10, Tryz.ntmps10
    go_wp2_with ((first | go_big_skip | (refine z23z ?_; intro g4 w1 hg40 hx f4; have hg4 := hide_ (Nat.le_trans hX.size hg40); clear hg40; replace hX := hX.trans hx; clear hx) | (go_at_call 26; refine (isNode_core (hC.out.ext hX) hnd.out).mono ?_; rintro e w2 ⟨rfl, hx⟩; replace f4 := f4.ext hx; replace hX := hX.trans hx; clear hx) | refine z2uz ?_ | fail) <;> (try refine z1z ?_))
    go_ret
    exact z2rz
  · have t3 : decide (d.kd < 3) = false := decide_eq_false hk3
    have t4 : decide (d.kd > 6) = false := decide_eq_false (by omega)
    have t5 : decide (6 < d.kd) = false := decide_eq_false (by omega)
    have hok0 := hR (by omega)
    obtain ⟨ix, hix0⟩ : ∃ i, (c.dec.length : Int) = i := ⟨_, rfl⟩
    have hix := hide_ hix0
    by_cases hlt : d.ix < ix
    · have tlt : decide (d.ix < ix) = true := decide_eq_true hlt
      have hin := hide_ (show 0 ≤ d.ix ∧ d.ix < (c.dec.length : Int) from ⟨hok0.1.1, by omega⟩)
      have hfin := hide_ (show c.handle d.msv kn = { c with out := c.told d.msv } from by
        unfold CoD.handle CoD.told
        rw [if_neg (show ¬ (d.msv.kd < 3 ∨ (c.t.length : Int) ≤ d.msv.fm ∨ c.idx < d.msv.ix) from fun q => by
          rcases q with q | q | q
          · exact hk3 q
          · have q' : (c.t.length : Int) ≤ d.fm := q; omega
          · have q' : (c.dec.length : Int) < d.ix := q; omega), if_pos (show d.msv.ix < c.idx from by show d.ix < (c.dec.length : Int); omega)]
        by_cases e : d.msv.kd = 6
        · rw [if_pos e, if_pos e, ← ho]
        · rw [if_neg e, if_neg e, ho]; rfl)
      clear h h6 hsp0 ho hR hf0 hk6 hk0 hks0 hnd0 hnd1 hk3 hok0 hix0 hlt
      go_enter Tryz.func10, Tryz.ntmps10
      go_wp2_with ((first | go_big_skip | (refine z23z ?_; intro g4 w1 hg40 hx f4; have hg4 := hide_ (Nat.le_trans hX.size hg40); clear hg40; replace hX := hX.trans hx; clear hx) | (go_at_call 26; refine (isNode_core (hC.out.ext hX) hnd.out).mono ?_; rintro e w2 ⟨rfl, hx⟩; replace f4 := f4.ext hx; replace hX := hX.trans hx; clear hx) | refine z2uz ?_ | fail) <;> (try refine z1z ?_))
      refine ztz ?_; intro wd hxd; have HC := hC.out.ext (hX.trans hxd); have F4 := f4.ext hxd
      refine z6lz ?_
      refine LinL.st [(23, some 0)] rfl (opld (.int .i64 d.ix) F4) ?_
      refine z1jz ?_
      refine z2az ?_
      refine LinL.step (s := (.val (.bool true))) [(24, some 2), (26, some 0)] rfl (by kernel_rfl) (op_runs rfl fun σ w' hx hg => ⟨(.bool true), by have h24 : σ.tmps.getD 24 undef = .int .i64 d.ix := hg.1; have h26 : σ.tmps.getD 26 undef = .int .i64 ix := hg.2.1; unfold Runs execOp; simp [Act.eval, h24, h26, go_sem, tlt], rfl⟩) ?_
      intro wN hxN
      refine z15z ?_
      replace hX := hX.trans (hxd.trans hxN); replace f4 := f4.ext (hxd.trans hxN); clear hxd hxN HC F4
      go_wp2_with ((first | ((with_reducible refine at_load ?_); refine w_loadN Tryz.stMsg _ (mRow d u) rfl rfl rfl f4 rfl mself_at ?_) | (go_at_call 27; refine (tell_core (hC.out.ext hX) hin.out).mono ?_; rintro e w3 ⟨ov, rfl, hx3, hrow⟩) | fail) <;> (try refine z1z ?_))
      go_ret
      have hg : ∀ k, wN.heap.size ≤ k → w.heap.size ≤ k ∧ S k = 0 := fun k hk => by
        have h1 := Nat.le_trans hX.size hk
        exact ⟨h1, Classical.byContradiction fun e => by have := hC.out.bnd k e; omega⟩
      exact Keep.intro ⟨S, ov, rfl, by rw [hfin.out]; exact Cor.outs ⟨sv, dv, q, gp, gs, (hC.out.ext hX).ext hx3⟩ _, hS6.out, by rw [hfin.out]; exact hrow.mono fun k hk => hg k hk, fun k hk => hg k (hrow.inF k hk), Stp.ofExt (hX.trans hx3) hC.out.bnd⟩
    · have tlt : decide (d.ix < ix) = false := decide_eq_false hlt
      by_cases hgt : ix < d.ix
      · have tgt : decide (d.ix > ix) = true := decide_eq_true hgt
        have hfin := hide_ (show c.handle d.msv kn = c from by
          unfold CoD.handle
          rw [if_pos (.inr (.inr (show (c.dec.length : Int) < d.ix by omega)))])
        clear h h6 hsp0 ho hR hf0 hk6 hk0 hks0 hnd0 hnd1 hk3 hok0 hix0 hlt hgt
        go_enter Tryz.func10, Tryz.ntmps10
        go_wp2_with ((first | go_big_skip | (refine z23z ?_; intro g4 w1 hg40 hx f4; have hg4 := hide_ (Nat.le_trans hX.size hg40); clear hg40; replace hX := hX.trans hx; clear hx) | (go_at_call 26; refine (isNode_core (hC.out.ext hX) hnd.out).mono ?_; rintro e w2 ⟨rfl, hx⟩; replace f4 := f4.ext hx; replace hX := hX.trans hx; clear hx) | refine z2uz ?_ | fail) <;> (try refine z1z ?_))
        refine ztz ?_; intro wd hxd; have HC := hC.out.ext (hX.trans hxd); have F4 := f4.ext hxd
        refine z3sz ?_
        intro wN hxN
        refine z15z ?_
        replace hX := hX.trans (hxd.trans hxN); replace f4 := f4.ext (hxd.trans hxN); clear hxd hxN HC F4
        go_wp2
        refine ztz ?_; intro wd hxd; have HC := hC.out.ext (hX.trans hxd); have F4 := f4.ext hxd
        refine z6lz ?_
        refine LinL.st [(31, some 0)] rfl (opld (.int .i64 d.ix) F4) ?_
        refine z1jz ?_
        refine z3oz ?_
        refine LinL.step (s := (.val (.bool true))) [(32, some 2), (34, some 0)] rfl (by kernel_rfl) (op_runs rfl fun σ w' hx hg => ⟨(.bool true), by have h32 : σ.tmps.getD 32 undef = .int .i64 d.ix := hg.1; have h34 : σ.tmps.getD 34 undef = .int .i64 ix := hg.2.1; unfold Runs execOp; simp [Act.eval, h32, h34, go_sem, tgt], rfl⟩) ?_
        intro wN hxN
        refine z15z ?_
        replace hX := hX.trans (hxd.trans hxN); replace f4 := f4.ext (hxd.trans hxN); clear hxd hxN HC F4
        go_wp2
        go_ret
        exact z2rz
      · have tgt : decide (d.ix > ix) = false := decide_eq_false hgt
        have hok := hide_ hok0
        obtain ⟨j, hj0⟩ : ∃ j : Nat, d.fm = (j : Int) := ⟨d.fm.toNat, by omega⟩
        have hj := hide_ hj0
        have hjn := hide_ (show j < c.t.length by omega)
        have hsh := spk_hear hsp0 hok0
        have hsp2 := hide_ hsh
        have hout2 := hide_ (show (c.hear d.msv).out = [] from by rw [hear_out]; exact ho)
        have hlen2 := hide_ (show ((c.hear d.msv).out.length + (c.hear d.msv).mu + 1) * 128 ≤ 140737488355328 from by
          rw [hear_out, ho]
          exact mu_len hsh.1.rv.1 hsh.1.rs.1 (Nat.zero_le 4))
        have hfin := hide_ (show c.handle d.msv kn = (c.hear d.msv).settle kn from by
          unfold CoD.handle
          rw [if_neg (show ¬ (d.msv.kd < 3 ∨ (c.t.length : Int) ≤ d.msv.fm ∨ c.idx < d.msv.ix) from fun q => by
            rcases q with q | q | q
            · exact hk3 q
            · have q' : (c.t.length : Int) ≤ d.fm := q; omega
            · have q' : (c.dec.length : Int) < d.ix := q; omega), if_neg (show ¬ d.msv.ix < c.idx from fun q => by have q' : d.ix < (c.dec.length : Int) := q; omega)])
        clear h h6 hsp0 ho hR hf0 hk6 hk0 hks0 hnd0 hnd1 hk3 hok0 hix0 hlt hgt hj0 hsh
        go_enter Tryz.func10, Tryz.ntmps10
        go_wp2_with ((first | go_big_skip | (refine z23z ?_; intro g4 w1 hg40 hx f4; have hg4 := hide_ (Nat.le_trans hX.size hg40); clear hg40; replace hX := hX.trans hx; clear hx) | (go_at_call 26; refine (isNode_core (hC.out.ext hX) hnd.out).mono ?_; rintro e w2 ⟨rfl, hx⟩; replace f4 := f4.ext hx; replace hX := hX.trans hx; clear hx) | refine z2uz ?_ | fail) <;> (try refine z1z ?_))
        refine ztz ?_; intro wd hxd; have HC := hC.out.ext (hX.trans hxd); have F4 := f4.ext hxd
        refine z3sz ?_
        intro wN hxN
        refine z15z ?_
        replace hX := hX.trans (hxd.trans hxN); replace f4 := f4.ext (hxd.trans hxN); clear hxd hxN HC F4
        go_wp2
        refine ztz ?_; intro wd hxd; have HC := hC.out.ext (hX.trans hxd); have F4 := f4.ext hxd
        refine z6lz ?_
        refine LinL.st [(31, some 0)] rfl (opld (.int .i64 d.ix) F4) ?_
        refine z1jz ?_
        refine z3oz ?_
        refine LinL.step (s := (.val (.bool false))) [(32, some 2), (34, some 0)] rfl (by kernel_rfl) (op_runs rfl fun σ w' hx hg => ⟨(.bool false), by have h32 : σ.tmps.getD 32 undef = .int .i64 d.ix := hg.1; have h34 : σ.tmps.getD 34 undef = .int .i64 ix := hg.2.1; unfold Runs execOp; simp [Act.eval, h32, h34, go_sem, tgt], rfl⟩) ?_
        intro wN hxN
        refine z15z ?_
        replace hX := hX.trans (hxd.trans hxN); replace f4 := f4.ext (hxd.trans hxN); clear hxd hxN HC F4
        go_wp2_with ((first | ((with_reducible refine at_load ?_); refine w_loadN Tryz.stMsg _ (mRow d u) rfl rfl rfl f4 rfl mself_at ?_) | (go_at_call 28; refine (take_core (hC.out.ext hX) hok.out hj.out hjn.out).mono ?_; rintro e w3 ⟨rfl, S1, hC1, hs1⟩; obtain ⟨S2, hC20, hs20, h620⟩ := CorW.low hC1 hS6.out (Stp.pre hX hs1); have hC2 := hide_ hC20; have hs2 := hide_ hs20; have h62 := hide_ h620; have hkv2 := hide_ (ints_mod hkv.out hs20.mod fun k hk => hs20.off (l := 0) (by omega) (hks.out k hk).2); have hks2 := hide_ (ks_stp hks.out hs20); clear hC1 hs1 hC20 hs20 h620) | (refine z4hz ?_; refine w_sbuild Tryz.stTurn [.pointer (some ⟨p, 0, none⟩), kv, .slice none 0 0] rfl rfl rfl (by intro x hx; simp at hx; rcases hx with rfl | rfl; exact ⟨by decide, rfl⟩; exact ⟨by decide, oneCell_cells (Sl.one' hkv.out)⟩) ?_) | (refine z5iz ?_; intro tb wt htb hxt ft) | (refine z4oz ?_; refine w_astore Tryz.stTurn (us := [.pointer (some ⟨p, 0, none⟩), kv, .slice none 0 0]) _ _ rfl rfl rfl rfl rfl ft rfl rfl (by intro x hx; simp only [List.mem_cons, List.not_mem_nil, or_false] at hx; rcases hx with rfl | rfl | rfl; rfl; exact Sl.one' hkv.out; rfl) ?_; intro wu hmu fu; obtain ⟨S3, hT30, hsame0, htb70, hxu0⟩ := hC2.out.turn h62.out hxt htb hmu fu hkv2.out hks2.out hout2.out; have hT3 := hide_ hT30; have hsame := hide_ hsame0; have hxu := hide_ hxu0; have htb0 := hide_ htb; clear hT30 hsame0 htb70 hxu0 hxt ft hmu fu htb) | (go_at_call 29; refine (settle_turn hT3.out hsp2.out hlen2.out).mono ?_; rintro e w5 ⟨rfl, S5, ⟨ov5, sv5, dv5, q5, gp5, gs5, hT50⟩, hs50⟩; have hT5 := hide_ hT50; have hs5 := hide_ hs50; clear hT50 hs50) | refine z2jz ?_ | ((with_reducible refine at_load ?_); (try refine w_yes _ _ _ rfl rfl rfl ?_); refine w_fload _ rfl rfl rfl hT5.out.turn rfl (agg_of (by kernel_rfl)) ?_) | fail) <;> (try refine z1z ?_))
        go_ret
        obtain ⟨S6, d1, d2, d3, d4, d5⟩ := hT5.out.done h62.out hC2.out.bnd hsame.out htb0.out hxu.out hs5.out
        have hge := hs2.out.size
        exact Keep.intro ⟨S6, ov5, rfl, by rw [hfin.out]; exact d1, d2, by rw [hfin.out]; exact d3.mono fun k hk => ⟨Nat.le_trans hge hk.1, hk.2⟩, fun k hk => ⟨Nat.le_trans hge (d4 k hk).1, (d4 k hk).2⟩, hs2.out.trans d5⟩
end Go.Proofs.YtajkjiegcmpjaaaGreat
namespace Go.Proofs.YtajkjiegcmpjaaaGreat
set_option maxHeartbeats 3200000
set_option maxRecDepth 100000
open Go.RowKit
theorem settle_len {N : Int → Prop} {i0 : Int} {c : CoD} {kn : List Int} (h : Spk N i0 c) (h0 : N 0) : (c.settle kn).out.length ≤ c.out.length + c.mu := by
  have := settle_ind (kn := kn) (fun d => Spk N i0 d ∧ d.out.length + d.mu ≤ c.out.length + c.mu) (fun d e hd he => ⟨spk_step1 hd.1 h0 he, by
    have h1 := mu_step1 hd.1.1 he
    have h2 := step1_len he
    have h3 := hd.2
    generalize d.mu = a at h1 h3
    generalize e.mu = b at h1 ⊢
    omega⟩) ⟨h, Nat.le_refl _⟩
  exact Nat.le_trans (Nat.le_add_right _ _) this.2
theorem tock_rest {c : CoD} (h : c.step = 0) : c.tock = c.enter 0 := if_pos h
theorem tock_wait {c : CoD} (h : ¬ c.step = 0) (ht : ¬ tck c.left = 0) : c.tock = { c with left := tck c.left } := by
  unfold CoD.tock
  rw [if_neg h]
  exact if_neg ht
theorem tock_up {c : CoD} (h : ¬ c.step = 0) (ht : tck c.left = 0) : c.tock = CoD.gu { c with left := tck c.left } := by
  unfold CoD.tock
  rw [if_neg h]
  exact if_pos ht
theorem tck_in {x : Int} (h : 0 ≤ x ∧ x ≤ 1000000) : 0 ≤ tck x ∧ tck x ≤ 1000000 := by unfold tck; omega
theorem gu_len (c : CoD) : c.gu.out.length ≤ c.out.length + 1 := by
  unfold CoD.gu
  split
  · exact castTo_len _ _ _ _
  · split
    · exact castTo_len _ _ _ _
    · split
      · exact enter_len _ _
      · unfold CoD.to; simp
theorem tock_len {c : CoD} : c.tock.out.length ≤ c.out.length + 1 := by
  by_cases h : c.step = 0
  · rw [tock_rest h]; exact enter_len _ _
  · by_cases ht : tck c.left = 0
    · rw [tock_up h ht]; exact gu_len _
    · rw [tock_wait h ht]; exact Nat.le_succ _
theorem tick_core {S : Nat → Nat} {w : World} {p q gp gs : Nat} {sv dv kv : Value} {kn : List Int} {c : CoD} {tip i0 : Int} (h : CorW S w p sv dv q gp gs c) (h6 : ∀ k, S k ≤ 6) (hsp0 : Spk NV i0 c) (ho : c.out = []) (ht0 : NV tip) (hk0 : Ints w kv kn) (hks0 : ∀ k, kv.ownBlock = some k → k < w.heap.size ∧ S k = 0) :
    Calls Tryz.prog 13 #[.pointer (some ⟨p, 0, none⟩), kv, .int .i64 tip] w fun e w' => ∃ S' ov, e = .returned ov ∧ Cor S' w' p (c.tick kn tip) ∧ (∀ k, S' k ≤ 6) ∧ RowN (fun k => w.heap.size ≤ k ∧ S' k = 0) w' 53 14 ov ((c.tick kn tip).out.map acRow) ∧ (∀ k, ov.ownBlock = some k → w.heap.size ≤ k ∧ S' k = 0) ∧ Stp 1 6 S S' w w' := by
  refine z30z ?_
  have hC := hide_ h
  have hX := Ext.refl w
  have hS6 := hide_ h6
  have hout := hide_ ho
  have hkv := hide_ hk0
  have hks := hide_ hks0
  obtain ⟨ob, hov0⟩ : ∃ b, decide (1000 < c.dec.length) = b := ⟨_, rfl⟩
  have hov := hide_ hov0
  cases ob with
  | true =>
    have hfin := hide_ (show c.tick kn tip = c from by
      unfold CoD.tick
      rw [if_pos (of_decide_eq_true hov0)])
    clear h h6 hsp0 ho ht0 hk0 hks0 hov0
    go_enter Tryz.func13, Tryz.ntmps13
    go_wp2_with (first | go_big_skip | (go_at_call 34; refine (isOver_core (hC.out.ext hX) hov.out).mono ?_; rintro e w2 ⟨rfl, hx⟩; replace hX := hX.trans hx; clear hx) | fail)
    go_ret
    exact z2rz
  | false =>
  have hdl : c.dec.length ≤ 1000 := by have := of_decide_eq_false hov0; omega
  have hsp1 := spk_tip hsp0 ht0
  have hsp3 := spk_tock hsp1 hdl
  have hsp2 := hide_ hsp3
  have hout2 := hide_ (show ({ c with tip := tip } : CoD).out = [] from ho)
  have hlen : (CoD.tock { c with tip := tip }).out.length ≤ 1 := Nat.le_trans (tock_len (c := { c with tip := tip })) (by show c.out.length + 1 ≤ 1; rw [ho]; simp)
  have hmu := mu_len hsp3.1.rv.1 hsp3.1.rs.1 (Nat.le_refl 4)
  have hlen2 := hide_ (show ((CoD.tock { c with tip := tip }).out.length + (CoD.tock { c with tip := tip }).mu + 1) * 128 ≤ 140737488355328 from Nat.le_trans (Nat.mul_le_mul_right 128 (Nat.succ_le_succ (Nat.add_le_add_right (Nat.le_trans hlen (show 1 ≤ 4 by decide)) _))) hmu)
  have hsp4 := spk_settle hsp3 NV.zero kn
  have hvr := hide_ (show 0 ≤ (CoD.settle (CoD.tock { c with tip := tip }) kn).view ∧ (CoD.settle (CoD.tock { c with tip := tip }) kn).view ≤ 1000 from hsp4.1.rv)
  have hlen3 := hide_ (show ((CoD.settle (CoD.tock { c with tip := tip }) kn).out.length + 3) * 128 ≤ 140737488355328 from by
    have h1 := settle_len (kn := kn) hsp3 NV.zero
    have h2 := mu_room _ hsp3.1.rv.1 hsp3.1.rs.1
    have hl : (CoD.tock { c with tip := tip }).out.length ≤ 1 := hlen
    generalize (CoD.tock { c with tip := tip }).mu = m at h1 h2
    exact Nat.le_trans (Nat.mul_le_mul_right 128 (show _ ≤ 10018020 by omega)) (by decide))
  have hvw := hide_ (show -1 ≤ c.vw from hsp0.1.vw.1)
  have hvr0 := hide_ (show 0 ≤ c.view ∧ c.view ≤ 1000 from hsp0.1.rv)
  have hlen1 := hide_ (show (c.out.length + 1) * 128 ≤ 140737488355328 from by rw [ho]; decide)
  have hfin := hide_ (show c.tick kn tip = ((CoD.tock { c with tip := tip }).settle kn).resend from by
    unfold CoD.tick
    rw [if_neg (of_decide_eq_false hov0)])
  by_cases h1 : c.step = 0
  · have t0 : (c.step == 0) = true := by simp [h1]
    have htock : CoD.tock { c with tip := tip } = CoD.enter { c with tip := tip } 0 := tock_rest h1
    rw [htock] at hsp2 hlen2 hvr hlen3 hfin
    clear h h6 hsp0 ho ht0 hk0 hks0 hov0 hdl hsp1 hsp3 hlen hmu hsp4 h1 htock
    go_enter Tryz.func13, Tryz.ntmps13
    go_wp2_with ((first | go_big_skip | (go_at_call 34; refine (isOver_core (hC.out.ext hX) hov.out).mono ?_; rintro e w2 ⟨rfl, hx⟩; replace hX := hX.trans hx; clear hx) | (refine z4ez ?_; intro w3 hm3 f3; have hs2 := hide_ (Stp.pre hX ((hC.out.ext hX).stpCell hm3)); have hC2 := hide_ ((hC.out.ext hX).cell (d := { c with tip := tip }) hm3 f3 ⟨rfl, rfl, rfl, rfl, rfl, rfl⟩ hC.out.lft); have hkv2 := hide_ (ints_mod hkv.out hs2.out.mod fun k hk => hs2.out.off (l := 0) (by omega) (hks.out k hk).2); have hks2 := hide_ (ks_stp hks.out hs2.out); clear hm3 f3) | refine z3iz ?_ | (refine z4hz ?_; refine w_sbuild Tryz.stTurn [.pointer (some ⟨p, 0, none⟩), kv, .slice none 0 0] rfl rfl rfl (by intro x hx; simp at hx; rcases hx with rfl | rfl; exact ⟨by decide, rfl⟩; exact ⟨by decide, oneCell_cells (Sl.one' hkv.out)⟩) ?_) | (refine z5iz ?_; intro tb wt htb hxt ft) | (refine z4oz ?_; refine w_astore Tryz.stTurn (us := [.pointer (some ⟨p, 0, none⟩), kv, .slice none 0 0]) _ _ rfl rfl rfl rfl rfl ft rfl rfl (by intro x hx; simp only [List.mem_cons, List.not_mem_nil, or_false] at hx; rcases hx with rfl | rfl | rfl; rfl; exact Sl.one' hkv.out; rfl) ?_; intro wu hmu fu; obtain ⟨S3, hT30, hsame0, htb70, hxu0⟩ := hC2.out.turn hS6.out hxt htb hmu fu hkv2.out hks2.out hout2.out; have hT3 := hide_ hT30; have hsame := hide_ hsame0; have hxu := hide_ hxu0; have htb0 := hide_ htb; have hst := hide_ (Stp.refl (lo := 1) (hi := 8) hT30.bnd); clear hT30 hsame0 htb70 hxu0 hxt ft hmu fu htb) | refine z2ez ?_ | (go_at_call 35; refine (enter_turn hT3.out (v := 0) (by omega) hvw.out hlen1.out).mono ?_; rintro e w4 ⟨rfl, S4, ov4, hT40, hs40⟩; replace hst := hide_ (hst.out.trans hs40); replace hT3 := hide_ hT40; clear hT40 hs40) | (go_at_call 29; refine (settle_turn hT3.out hsp2.out hlen2.out).mono ?_; rintro e w5 ⟨rfl, S5, ⟨ov5, sv5, dv5, q5, gp5, gs5, hT50⟩, hs50⟩; have hT5 := hide_ hT50; replace hst := hide_ (hst.out.trans hs50); clear hT50 hs50 hT3) | (go_at_call 38; refine (repeat_turn hT5.out hvr.out hlen3.out).mono ?_; rintro e w6 ⟨rfl, S6, ⟨ov6, sv6, dv6, q6, gp6, gs6, hT60⟩, hs60⟩; have hT6 := hide_ hT60; replace hst := hide_ (hst.out.trans hs60); clear hT60 hs60) | refine z2jz ?_ | refine z4kz ?_ | fail) <;> (try refine z1z ?_))
    go_ret
    obtain ⟨S7, d1, d2, d3, d4, d5⟩ := hT6.out.done hS6.out hC2.out.bnd hsame.out htb0.out hxu.out hst.out
    have hge := hs2.out.size
    exact z3gz
  · have t0 : (c.step == 0) = false := by simp [h1]
    have hl6 := hide_ (tck_in h.lft)
    have hstp := hide_ (show 1 ≤ c.step ∧ c.step ≤ 3 from by have := hsp0.1.rs; omega)
    obtain ⟨tb0, htk0⟩ : ∃ b, decide (tck c.left = 0) = b := ⟨_, rfl⟩
    have htk := hide_ htk0
    cases tb0 with
    | true =>
      have htock : CoD.tock { c with tip := tip } = CoD.gu { c with tip := tip, left := tck c.left } := tock_up h1 (of_decide_eq_true htk0)
      rw [htock] at hsp2 hlen2 hvr hlen3 hfin
      clear h h6 hsp0 ho ht0 hk0 hks0 hov0 hdl hsp1 hsp3 hlen hmu hsp4 h1 htock htk0
      go_enter Tryz.func13, Tryz.ntmps13
      go_wp2_with ((first | go_big_skip | (go_at_call 34; refine (isOver_core (hC.out.ext hX) hov.out).mono ?_; rintro e w2 ⟨rfl, hx⟩; replace hX := hX.trans hx; clear hx) | (refine z4ez ?_; intro w3 hm3 f3; have hs2 := hide_ (Stp.pre hX ((hC.out.ext hX).stpCell hm3)); have hC2 := hide_ ((hC.out.ext hX).cell (d := { c with tip := tip }) hm3 f3 ⟨rfl, rfl, rfl, rfl, rfl, rfl⟩ hC.out.lft); have hkv2 := hide_ (ints_mod hkv.out hs2.out.mod fun k hk => hs2.out.off (l := 0) (by omega) (hks.out k hk).2); have hks2 := hide_ (ks_stp hks.out hs2.out); clear hm3 f3) | refine z3iz ?_ | (refine z4hz ?_; refine w_sbuild Tryz.stTurn [.pointer (some ⟨p, 0, none⟩), kv, .slice none 0 0] rfl rfl rfl (by intro x hx; simp at hx; rcases hx with rfl | rfl; exact ⟨by decide, rfl⟩; exact ⟨by decide, oneCell_cells (Sl.one' hkv.out)⟩) ?_) | (refine z5iz ?_; intro tb wt htb hxt ft) | (refine z4oz ?_; refine w_astore Tryz.stTurn (us := [.pointer (some ⟨p, 0, none⟩), kv, .slice none 0 0]) _ _ rfl rfl rfl rfl rfl ft rfl rfl (by intro x hx; simp only [List.mem_cons, List.not_mem_nil, or_false] at hx; rcases hx with rfl | rfl | rfl; rfl; exact Sl.one' hkv.out; rfl) ?_; intro wu hmu fu; obtain ⟨S3, hT30, hsame0, htb70, hxu0⟩ := hC2.out.turn hS6.out hxt htb hmu fu hkv2.out hks2.out hout2.out; have hT3 := hide_ hT30; have hsame := hide_ hsame0; have hxu := hide_ hxu0; have htb0 := hide_ htb; have hst := hide_ (Stp.refl (lo := 1) (hi := 8) hT30.bnd); clear hT30 hsame0 htb70 hxu0 hxt ft hmu fu htb) | refine z2ez ?_ | (go_at_call 36; refine (Tick_at hT3.out.cor.obj (i := 8) (x := c.left) rfl (by have := hC.out.lft; omega)).mono ?_; rintro e w4 ⟨rfl, hm4, f4⟩; have hT40 := hT3.out.core (hT3.out.cor.stpCell hm4) (hT3.out.cor.cell (d := { c with tip := tip, left := tck c.left }) hm4 f4 ⟨rfl, rfl, rfl, rfl, rfl, rfl⟩ hl6.out) rfl; replace hst := hide_ (hst.out.trans ((hT3.out.cor.stpCell hm4).wide (by omega) (by omega))); replace hT3 := hide_ hT40; clear hT40 hm4 f4; rw [htk.out]) | (go_at_call 37; refine (giveUp_turn hT3.out hstp.out hvr0.out hvw.out hlen1.out).mono ?_; rintro e w4 ⟨rfl, S4, ⟨ov4, sv4, dv4, q4, gp4, gs4, hT40⟩, hs40⟩; replace hst := hide_ (hst.out.trans hs40); replace hT3 := hide_ hT40; clear hT40 hs40) | (go_at_call 29; refine (settle_turn hT3.out hsp2.out hlen2.out).mono ?_; rintro e w5 ⟨rfl, S5, ⟨ov5, sv5, dv5, q5, gp5, gs5, hT50⟩, hs50⟩; have hT5 := hide_ hT50; replace hst := hide_ (hst.out.trans hs50); clear hT50 hs50 hT3) | (go_at_call 38; refine (repeat_turn hT5.out hvr.out hlen3.out).mono ?_; rintro e w6 ⟨rfl, S6, ⟨ov6, sv6, dv6, q6, gp6, gs6, hT60⟩, hs60⟩; have hT6 := hide_ hT60; replace hst := hide_ (hst.out.trans hs60); clear hT60 hs60) | refine z2jz ?_ | refine z4kz ?_ | fail) <;> (try refine z1z ?_))
      go_ret
      obtain ⟨S7, d1, d2, d3, d4, d5⟩ := hT6.out.done hS6.out hC2.out.bnd hsame.out htb0.out hxu.out hst.out
      have hge := hs2.out.size
      exact z3gz
    | false =>
      have htock : CoD.tock { c with tip := tip } = { c with tip := tip, left := tck c.left } := tock_wait h1 (of_decide_eq_false htk0)
      rw [htock] at hsp2 hlen2 hvr hlen3 hfin
      clear h h6 hsp0 ho ht0 hk0 hks0 hov0 hdl hsp1 hsp3 hlen hmu hsp4 h1 htock htk0
      go_enter Tryz.func13, Tryz.ntmps13
      go_wp2_with ((first | go_big_skip | (go_at_call 34; refine (isOver_core (hC.out.ext hX) hov.out).mono ?_; rintro e w2 ⟨rfl, hx⟩; replace hX := hX.trans hx; clear hx) | (refine z4ez ?_; intro w3 hm3 f3; have hs2 := hide_ (Stp.pre hX ((hC.out.ext hX).stpCell hm3)); have hC2 := hide_ ((hC.out.ext hX).cell (d := { c with tip := tip }) hm3 f3 ⟨rfl, rfl, rfl, rfl, rfl, rfl⟩ hC.out.lft); have hkv2 := hide_ (ints_mod hkv.out hs2.out.mod fun k hk => hs2.out.off (l := 0) (by omega) (hks.out k hk).2); have hks2 := hide_ (ks_stp hks.out hs2.out); clear hm3 f3) | refine z3iz ?_ | (refine z4hz ?_; refine w_sbuild Tryz.stTurn [.pointer (some ⟨p, 0, none⟩), kv, .slice none 0 0] rfl rfl rfl (by intro x hx; simp at hx; rcases hx with rfl | rfl; exact ⟨by decide, rfl⟩; exact ⟨by decide, oneCell_cells (Sl.one' hkv.out)⟩) ?_) | (refine z5iz ?_; intro tb wt htb hxt ft) | (refine z4oz ?_; refine w_astore Tryz.stTurn (us := [.pointer (some ⟨p, 0, none⟩), kv, .slice none 0 0]) _ _ rfl rfl rfl rfl rfl ft rfl rfl (by intro x hx; simp only [List.mem_cons, List.not_mem_nil, or_false] at hx; rcases hx with rfl | rfl | rfl; rfl; exact Sl.one' hkv.out; rfl) ?_; intro wu hmu fu; obtain ⟨S3, hT30, hsame0, htb70, hxu0⟩ := hC2.out.turn hS6.out hxt htb hmu fu hkv2.out hks2.out hout2.out; have hT3 := hide_ hT30; have hsame := hide_ hsame0; have hxu := hide_ hxu0; have htb0 := hide_ htb; have hst := hide_ (Stp.refl (lo := 1) (hi := 8) hT30.bnd); clear hT30 hsame0 htb70 hxu0 hxt ft hmu fu htb) | refine z2ez ?_ | (go_at_call 36; refine (Tick_at hT3.out.cor.obj (i := 8) (x := c.left) rfl (by have := hC.out.lft; omega)).mono ?_; rintro e w4 ⟨rfl, hm4, f4⟩; have hT40 := hT3.out.core (hT3.out.cor.stpCell hm4) (hT3.out.cor.cell (d := { c with tip := tip, left := tck c.left }) hm4 f4 ⟨rfl, rfl, rfl, rfl, rfl, rfl⟩ hl6.out) rfl; replace hst := hide_ (hst.out.trans ((hT3.out.cor.stpCell hm4).wide (by omega) (by omega))); replace hT3 := hide_ hT40; clear hT40 hm4 f4; rw [htk.out]) | (go_at_call 29; refine (settle_turn hT3.out hsp2.out hlen2.out).mono ?_; rintro e w5 ⟨rfl, S5, ⟨ov5, sv5, dv5, q5, gp5, gs5, hT50⟩, hs50⟩; have hT5 := hide_ hT50; replace hst := hide_ (hst.out.trans hs50); clear hT50 hs50 hT3) | (go_at_call 38; refine (repeat_turn hT5.out hvr.out hlen3.out).mono ?_; rintro e w6 ⟨rfl, S6, ⟨ov6, sv6, dv6, q6, gp6, gs6, hT60⟩, hs60⟩; have hT6 := hide_ hT60; replace hst := hide_ (hst.out.trans hs60); clear hT60 hs60) | refine z2jz ?_ | refine z4kz ?_ | fail) <;> (try refine z1z ?_))
      go_ret
      obtain ⟨S7, d1, d2, d3, d4, d5⟩ := hT6.out.done hS6.out hC2.out.bnd hsame.out htb0.out hxu.out hst.out
      have hge := hs2.out.size
      exact z3gz
end Go.Proofs.YtajkjiegcmpjaaaGreat
namespace Go.Proofs.YtajkjiegcmpjaaaGreat
set_option maxHeartbeats 3200000
set_option maxRecDepth 100000
open Go.RowKit
theorem run_cbuild (me base most : Int) (A : Option Addr) (n m : Nat) (q gp gs : Nat) (w : World) : (Instr.build 78 #[(0, .int .i64 me), (1, .slice A n m), (2, .int .i64 base), (3, .int .i64 most), (6, .agg #[.int .i64 0, .int .i64 0, .int .i64 0, .pointer (some ⟨q, 0, none⟩), .map (some gp), .map (some gs), .int .i64 0, .int .i64 (-1), .int .i64 0, .int .i64 (-1)])]).run Tryz.prog w = .ok (.agg #[.int .i64 me, .slice A n m, .int .i64 base, .int .i64 most, .slice none 0 0, .int .i64 0, .int .i64 0, .int .i64 0, .int .i64 0, .pointer (some ⟨q, 0, none⟩), .map (some gp), .map (some gs), .int .i64 0, .int .i64 (-1), .int .i64 0, .int .i64 (-1)]) w := by
  kernel_rfl
theorem w_cbuild {ops : Array Oper} {rest : List Oper} {o : Oper} {a : Act} {Q : Exit → Act → World → Prop} {w : World} (x0 x1 x2 x3 x6 : Operand) {me base most : Int} {sv : Value} {q gp gs : Nat} (hs : ∃ A n m, sv = .slice A n m) (hgd : o.guard = none) (ho : o.op = .build 78 #[(0, x0), (1, x1), (2, x2), (3, x3), (6, x6)]) (h0 : a.eval x0 = .int .i64 me) (h1 : a.eval x1 = sv) (h2 : a.eval x2 = .int .i64 base) (h3 : a.eval x3 = .int .i64 most) (h6 : a.eval x6 = .agg #[.int .i64 0, .int .i64 0, .int .i64 0, .pointer (some ⟨q, 0, none⟩), .map (some gp), .map (some gs), .int .i64 0, .int .i64 (-1), .int .i64 0, .int .i64 (-1)])
    (k : wpList Tryz.prog ops Q rest (a.put o.dst (.agg #[.int .i64 me, sv, .int .i64 base, .int .i64 most, .slice none 0 0, .int .i64 0, .int .i64 0, .int .i64 0, .int .i64 0, .pointer (some ⟨q, 0, none⟩), .map (some gp), .map (some gs), .int .i64 0, .int .i64 (-1), .int .i64 0, .int .i64 (-1)])) w) : wpList Tryz.prog ops Q (o :: rest) a w := by
  obtain ⟨A, n, m, rfl⟩ := hs
  have hr := run_cbuild me base most A n m q gp gs w
  refine wpList_runs hgd ?_ k
  unfold Runs execOp
  simp [ho, h0, h1, h2, h3, h6, hr]
theorem CorW.new {w w1 w2 w3 : World} {t : List Int} {me : Nat} {base most : Int} {sv : Value} {p q gp gs : Nat} {X : Nat → Prop} (hx1 : Ext w w1) (ho : OwnI w.heap.size w1 sv t) (hx2 : Ext w1 w2) (n1 : Tal X w2 q t T0 0) (n2 : w2.ownsMap Tryz.prog 3 tok gp 0 (.map [])) (n3 : w2.ownsMap Tryz.prog 3 tok gs 0 (.map []))
    (n4 : ∀ k, X k → w1.heap.size ≤ k ∧ k < w2.heap.size) (n5 : w1.heap.size ≤ gp) (n6 : w1.heap.size ≤ gs) (n7 : ¬ X gp) (n8 : ¬ X gs) (n9 : gp ≠ gs) (hp : w2.heap.size ≤ p) (hx3 : Ext w2 w3) (hf : Fs w3 p (coRow (CoD.new me t base most) sv (.slice none 0 0) q gp gs)) (hme : me < t.length) :
    ∃ S', CorW S' w3 p sv (.slice none 0 0) q gp gs (CoD.new me t base most) ∧ (∀ k, S' k ≤ 6) ∧ ∀ k, S' k ≠ 0 → w.heap.size ≤ k := by
  have s1 := hx1.size
  have s2 := hx2.size
  have s3 := hx3.size
  have lp := hf.lt
  have lgp := n2.lt
  have lgs := n3.lt
  refine ⟨fun k => if k < w.heap.size then 0 else if k < w1.heap.size then 6 else if k = gp then 2 else if k = gs then 3 else if k < w2.heap.size then 5 else if k = p then 1 else 0, ?_, fun k => ?_, fun k hk => ?_⟩
  · refine ⟨hf, ⟨?_, ?_, ?_⟩, (ho.ints.ext hx2).ext hx3, fun k hk => ?_, Row.nil _ _, ?_, ⟨0, _, by omega, ownsMap_ext n2 hx3, PrM.nil⟩, ⟨0, _, by omega, ownsMap_ext n3 hx3, InM.nil, fun i hi => absurd rfl hi⟩, fun k hk => ?_, ⟨Int.le_refl _, by show (0 : Int) ≤ 1000000; omega⟩, hme⟩
    · rw [if_neg (by omega), if_neg (by omega), if_neg (by omega), if_neg (by omega), if_neg (by omega), if_pos rfl]
    · rw [if_neg (by omega), if_neg (by omega), if_pos rfl]
    · rw [if_neg (by omega), if_neg (by omega), if_neg (Ne.symm n9), if_pos rfl]
    · obtain ⟨h1, h2⟩ := (show w1.ownsRow w.heap.size 3 1 sv (i64s t).length (i64s t) from ho).lt k hk
      rw [if_neg (by omega), if_pos h2]
    · obtain ⟨a, b, D, m, ht⟩ := n1.tight
      refine ⟨a, b, D, m, (ht.ext hx3).mono fun k hk => ?_⟩
      have := n4 k hk
      rw [if_neg (by omega), if_neg (by omega), if_neg (show ¬ k = gp from fun e => n7 (e ▸ hk)), if_neg (show ¬ k = gs from fun e => n8 (e ▸ hk)), if_pos this.2]
    · (try dsimp only at hk)
      split at hk
      · exact absurd rfl hk
      · split at hk
        · omega
        · split at hk
          · omega
          · split at hk
            · omega
            · split at hk
              · omega
              · split at hk
                · omega
                · exact absurd rfl hk
  · (try dsimp only)
    split <;> (try split) <;> (try split) <;> (try split) <;> (try split) <;> (try split) <;> omega
  · (try dsimp only at hk)
    split at hk
    · exact absurd rfl hk
    · omega
theorem New_any {w : World} {v : Value} {t : List Int} {me : Nat} {base most : Int} (hv0 : Ints w v t) (ht0 : StOk t) (hm0 : me < t.length) :
    Calls Tryz.prog 9 #[.int .i64 (me : Nat), v, .int .i64 base, .int .i64 most] w fun e w' => ∃ p S', e = .returned (.pointer (some ⟨p, 0, none⟩)) ∧ Cor S' w' p (CoD.new me t base most) ∧ (∀ k, S' k ≤ 6) ∧ (∀ k, S' k ≠ 0 → w.heap.size ≤ k) ∧ Ext w w' := by
  refine z30z ?_
  have hv := hide_ hv0
  have ht := hide_ ht0
  have hm := hide_ hm0
  have hlc := hide_ (show t.length * 8 ≤ 140737488355328 by have := ht0.2.1; omega)
  clear hv0 ht0 hm0
  go_enter Tryz.func9, Tryz.ntmps9
  go_wp2_with ((first | (go_at_call 24; refine (IClone_any hv.out hlc.out).mono ?_; rintro e w1 ⟨sv, rfl, ho, hx1⟩) | (go_at_call 25; refine (newRound_any ho.ints ht.out).mono ?_; rintro e w2 ⟨u2, rfl, ⟨q, gp, gs, X, rfl, n1, n2, n3, n4, n5, n6, n7, n8, n9⟩, hx2⟩) | ((with_reducible refine at_sbuild ?_); refine w_cbuild (.tmp 12) (.tmp 13) (.tmp 14) (.tmp 15) (.tmp 17) (me := (me : Nat)) (base := base) (most := most) (sv := sv) (q := q) (gp := gp) (gs := gs) (by obtain ⟨A, cc, hxv, _⟩ := ho.ints; exact ⟨_, _, _, hxv⟩) rfl rfl rfl rfl rfl rfl rfl ?_) | ((with_reducible refine at_box ?_); refine w_box _ (coRow (CoD.new me t base most) sv (.slice none 0 0) q gp gs) rfl rfl rfl rfl ?_; intro p w3 hp hx3 hf) | fail) <;> (try refine z1z ?_))
  obtain ⟨S', hC, h6, hlo⟩ := CorW.new hx1 ho hx2 n1 n2 n3 n4 n5 n6 n7 n8 n9 hp hx3 hf hm.out
  go_ret
  exact Keep.intro ⟨p, S', rfl, ⟨_, _, _, _, _, hC⟩, h6, hlo, hx1.trans (hx2.trans hx3)⟩
end Go.Proofs.YtajkjiegcmpjaaaGreat
namespace Go.Proofs.YtajkjiegcmpjaaaGreat
set_option maxRecDepth 100000
open Go.RowKit
set_option maxHeartbeats 800000 in
theorem SameInts_any (va vb : Value) (l : List Int) (w : World) (ha : Ints w va l) (hb : Ints w vb l) :
    Calls Tryz.prog 19 #[va, vb] w fun e w' => e = .returned (.bool true) ∧ Ext w w' := by
  refine z30z ?_
  have hlm := ha.len_le
  unfold maxLen at hlm
  go_enter Tryz.func19, Tryz.ntmps19
  go_wp2_with (first | (refine i_len (.tmp 6) rfl rfl (v := va) rfl ha ?_) | (refine i_len (.tmp 8) rfl rfl (v := vb) rfl hb ?_) | (refine i_len (.tmp 11) rfl rfl (v := va) rfl ha ?_))
  go_loopw [13] (fun i wr => ∃ (k : Nat), i = .int .i64 k ∧ k ≤ l.length ∧ Ext w wr)
    (fun i _ => l.length - (intOf i).toNat)
  case atStart => exact z69z
  case round =>
    obtain ⟨k, rfl, hk, hX⟩ := hrel
    by_cases hlt : k < l.length
    · have K0 := (ha.ext hX).ext (Ext.refl _).drew
      have K1 := (hb.ext hX).ext (Ext.refl _).drew
      go_wp2
      refine wp_region_linR (by kernel_rfl) (by kernel_rfl) ?_
      refine LinR.step (s := (.val (va))) [(0, none)] rfl (by kernel_rfl) (op_out 0 (va) rfl (.inl rfl) rfl) ?_
      refine LinR.step (s := (.val (.int .i64 k))) [(5, none)] rfl (by kernel_rfl) (op_out 5 (.int .i64 k) rfl (.inl rfl) rfl) ?_
      refine LinR.step (s := (Sp.ptr (.int .i64 (l[k])))) [(16, some 1), (17, some 0)] rfl (by kernel_rfl) (op_runs rfl fun σ w' hx hg => rptri (ρ := σ.eval) (w := w') (.tmp 16) (.tmp 17) rfl (hg.1) (K0.ext hx) k hg.2.1 hlt rfl) ?_
      refine LinR.step (s := (.val (.int .i64 (l[k] : Int)))) [(18, some 0)] rfl (by kernel_rfl) (op_runs rfl fun σ w' hx hg => ⟨_, runs_load (ρ := σ.eval) (w := w') (.tmp 18) rfl Tryz.underlying3 rfl hg.1, rfl⟩) ?_
      refine LinR.step (s := (.val (vb))) [(1, none)] rfl (by kernel_rfl) (op_out 1 (vb) rfl (.inl rfl) rfl) ?_
      refine LinR.step (s := (.val (.int .i64 k))) [(5, none)] rfl (by kernel_rfl) (op_out 5 (.int .i64 k) rfl (.inl rfl) rfl) ?_
      refine LinR.step (s := (Sp.ptr (.int .i64 (l[k])))) [(20, some 1), (21, some 0)] rfl (by kernel_rfl) (op_runs rfl fun σ w' hx hg => rptri (ρ := σ.eval) (w := w') (.tmp 20) (.tmp 21) rfl (hg.1) (K1.ext hx) k hg.2.1 hlt rfl) ?_
      refine LinR.step (s := (.val (.int .i64 (l[k] : Int)))) [(22, some 0)] rfl (by kernel_rfl) (op_runs rfl fun σ w' hx hg => ⟨_, runs_load (ρ := σ.eval) (w := w') (.tmp 22) rfl Tryz.underlying3 rfl hg.1, rfl⟩) ?_
      refine LinR.step (s := (.val (.bool false))) [(19, some 4), (23, some 0)] rfl (by kernel_rfl) (op_runs rfl fun σ w' hx hg => ⟨(.bool false), by have h19 : σ.tmps.getD 19 undef = .int .i64 (l[k] : Int) := hg.1; have h23 : σ.tmps.getD 23 undef = .int .i64 (l[k] : Int) := hg.2.1; unfold Runs execOp; simp [Act.eval, h19, h23, go_sem], rfl⟩) ?_
      intro wN hxN
      simp only [Fin', Sp.ptr, List.reverse_cons, List.reverse_nil, List.nil_append, List.cons_append]
      intro q18 hq18 q22 hq22
      refine z1z ?_
      go_wp2
      go_roundw
      case rel => exact ⟨k + 1, by go_num, by omega, (hX.trans (Ext.refl _).drew).trans hxN⟩
      case measure => simp [intOf]; omega
    · go_wp2
      go_ret
      exact z3mz
end Go.Proofs.YtajkjiegcmpjaaaGreat
