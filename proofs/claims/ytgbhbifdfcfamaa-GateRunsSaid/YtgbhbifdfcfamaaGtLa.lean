/- gateAlive: the chapter's example. -/
import Derived.Test.YtgbhbifdfcfamaaGtC
import Derived.Test.YtgbhbifdfcfamaaMg9
import Derived.Deep.Cut
namespace Go.Proofs.Ytgbhbifdfcfamaa
set_option maxRecDepth 100000
open Go.RowKit Go.ChangeShapes Go.WideShapes Go.ChangeAt

/-- A block as a message of somebody. -/
def sayM (f : Int) (b : BlkD) : MsgD := ⟨1, f, 0, 0, 0, 0, TxD.zero, b⟩
theorem sayM_right {f : Int} {b : BlkD} (hf : 0 ≤ f ∧ f ≤ 6) (hb : b.Right) : (sayM f b).Right := by
  unfold MsgD.Right sayM In VOk
  simp [hf, hb]
theorem rd_bytes' {m : MsgD} (h : m.Right) : rdMsg m.bytes = some m := (rdMsg_iff m.bytes_lt m).2 ⟨h, rfl⟩
theorem bytes_ne {a b : MsgD} (ha : a.Right) (hb : b.Right) (h : a ≠ b) : a.bytes ≠ b.bytes := fun e => h (by
  have := rd_bytes' ha
  rw [e, rd_bytes' hb] at this; injection this with this; exact this.symm)
theorem run_saymsg (f : Int) (b : BlkD) (B : Option Addr) (i j : Nat) (w : World) : (Instr.build 48 #[(0, .int .i64 1), (1, .int .i64 f), (7, .agg #[.int .i64 b.slot, .int .i64 b.miner, .int .i64 b.var, .int .i64 b.parent, .slice B i j])]).run Try.prog w = .ok (.agg (mRow (sayM f b) (.slice B i j)).toArray) w := by
  kernel_rfl
theorem w_saymsg {ops : Array Oper} {rest : List Oper} {o : Oper} {a : Act} {Q : Exit → Act → World → Prop} {w : World} (x0 x1 x7 : Operand) {f : Int} {b : BlkD} {u : Value} (hs : ∃ B i j, u = .slice B i j) (hgd : o.guard = none) (ho : o.op = .build 48 #[(0, x0), (1, x1), (7, x7)]) (h0 : a.eval x0 = .int .i64 1) (h1 : a.eval x1 = .int .i64 f) (h7 : a.eval x7 = .agg (bRw b u).toArray) (k : wpList Try.prog ops Q rest (a.put o.dst (.agg (mRow (sayM f b) u).toArray)) w) : wpList Try.prog ops Q (o :: rest) a w := by
  obtain ⟨B, i, j, rfl⟩ := hs
  have hr := run_saymsg f b B i j w
  refine wpList_runs hgd ?_ k
  unfold Runs execOp
  simp [ho, h0, h1, h7, bRw, hr]
theorem Recs.isSl {α : Type} {n : Nat} {R : World → List Value → α → Prop} {w : World} {v : Value} {l : List α} (h : Recs n R w v l) : ∃ B i j, v = .slice B i j := by
  obtain ⟨rows, ⟨A, c, rfl, _⟩, _⟩ := h; exact ⟨_, _, _, rfl⟩
set_option maxRecDepth 100000 in
set_option maxHeartbeats 3200000 in
theorem say_any {w : World} {f : Int} {u : Value} {b : BlkD} (hf0 : 0 ≤ f ∧ f ≤ 6) (hb0 : b.Right) (hu0 : Recs 2 TxR w u b.txs) (hp0 : I64 b.parent) :
    Calls Try.prog 21 #[.int .i64 f, .agg #[.int .i64 b.slot, .int .i64 b.miner, .int .i64 b.var, .int .i64 b.parent, u]] w fun e w' => ∃ v', e = .returned v' ∧ OwnB w.heap.size w' v' (sayM f b).bytes ∧ Ext w w' := by
  refine calls_keep ?_
  have hu := hide_ hu0
  have hp := hide_ hp0
  have hR := hide_ (sayM_right hf0 hb0)
  have hs := hide_ hu0.isSl
  have hX := Ext.refl w
  have hv0 := hide_ (show I64 (sayM f b).vl from ⟨by simp [sayM], by simp [sayM]⟩)
  clear hf0 hb0 hu0 hp0
  go_enter Try.func21, Try.ntmps21
  go_wp2_with ((first
    | ((with_reducible refine at_box ?_); refine w_box _ [.int .i64 b.slot, .int .i64 b.miner, .int .i64 b.var, .int .i64 b.parent, u] rfl rfl rfl rfl ?_; intro g3 w1 hg3 hx f3; replace hX := hX.trans hx; clear hx)
    | ((with_reducible refine at_load ?_); refine w_aload Try.stBlk _ rfl rfl rfl f3 rfl ?_)
    | (refine w_saymsg _ _ _ (b := b) (u := u) hs.out rfl rfl rfl rfl rfl ?_)
    | (go_at_call 19; refine (refMBytes_yes (d := sayM f b) (u := u) hR.out (hu.out.ext TxR.stays hX) hv0.out hp.out).mono ?_; rintro e w2 ⟨v2, rfl, o2, hx⟩; replace o2 := hide_ (o2.mono hX.size); replace hX := hX.trans hx; clear hx)
    | fail) <;> (try simp only [Act.put, List.setIfInBounds_toArray, List.set_cons_zero, List.set_cons_succ]))
  go_ret
  exact Keep.intro ⟨_, rfl, o2.out, hX⟩
theorem SlS.modB {F : Nat → Prop} {w w' : World} {v : Value} {n : Nat} {rows : List (List Value)} (h : SlS w v n rows) (hm : Mod F w w') (hn : ∀ k, v.ownBlock = some k → ¬ F k) : SlS w' v n rows := by
  obtain ⟨A, c, rfl, h2, h3, h4⟩ := h
  refine ⟨A, c, rfl, h2, h3, fun k row hk => ?_⟩
  obtain ⟨h5, ad, rfl, h7⟩ := h4 k row hk
  exact ⟨h5, ad, rfl, h7.mod hm (by rw [blk_add]; exact hn ad.block rfl)⟩
theorem recsT_modB {F : Nat → Prop} {w w' : World} {v : Value} {l : List TxD} (h : Recs 2 TxR w v l) (hm : Mod F w w') (hn : ∀ k, v.ownBlock = some k → ¬ F k) : Recs 2 TxR w' v l := by
  obtain ⟨rows, h1, h2, h3⟩ := h
  exact ⟨rows, h1.modB hm hn, h2, fun k row d hk hd => h3 k row d hk hd⟩
def bA : BlkD := ⟨1, 1, 0, 0, []⟩
def bC : BlkD := ⟨1, 1, 0, 0, [⟨1, 0⟩]⟩
theorem bA_right : bA.Right := ⟨by simp [bA], by simp [bA], by simp [bA], .inl rfl, ⟨by simp [bA], by simp [bA], by simp [bA]⟩⟩
theorem bC_right : bC.Right := ⟨by simp [bC], by simp [bC], by simp [bC], .inl rfl, ⟨by simp [bC], by simp [bC, TxD.Right], by simp [bC]⟩⟩
theorem bAC_name : bC.name = bA.name := by unfold BlkD.name; rw [if_pos bA_right, if_pos bC_right]; rfl
def gA0 : GaD := ⟨[2], [], []⟩
def gA1 : GaD := ⟨[2], [(sayM 1 bA).bytes], [bA]⟩
theorem rd_say {f : Int} {b : BlkD} (hf : 0 ≤ f ∧ f ≤ 6) (hb : b.Right) : rdMsg (sayM f b).bytes = some (sayM f b) := rd_bytes' (sayM_right hf hb)
theorem gA_1 : gA0.pass (sayM 2 bA).bytes = (gA0, false) := by
  rw [GaD.pass_some (rd_say (by omega) bA_right), if_neg (by simp [gA0]), if_pos (by simp [gA0, sayM]), if_pos (by rfl), GaD.passB_none (by rfl), if_neg (by simp [gA0, sayM, bA])]
theorem gA_2 : gA0.say (sayM 1 bA).bytes = gA1 := by
  rw [GaD.say_blk (rd_say (by omega) bA_right) rfl, GaD.learn_no (by rfl)]
  rfl
theorem gA1_find {n : Int} (h : n = bA.name) : gA1.find n = some bA := by
  unfold GaD.find gA1
  simp [h]
theorem gA1_new {f : Int} {b : BlkD} (hf : 0 ≤ f ∧ f ≤ 6) (hb : b.Right) (h : sayM f b ≠ sayM 1 bA) : (sayM f b).bytes ∉ gA1.said := by
  unfold gA1
  rw [List.mem_singleton]
  exact bytes_ne (sayM_right hf hb) (sayM_right (by omega) bA_right) h
theorem gA_3 : gA1.pass (sayM 2 bA).bytes = (gA1, true) := by
  rw [GaD.pass_some (rd_say (by omega) bA_right), if_neg (gA1_new (by omega) bA_right (fun e => by have := congrArg MsgD.fm e; simp [sayM] at this)), if_pos (by simp [gA1, sayM]), if_pos (by rfl), GaD.passB_some (b := (sayM 2 bA).bk) (gA1_find rfl)]
  simp [sayM]
theorem gA_4 : gA1.pass (sayM 2 bC).bytes = (gA1, false) := by
  rw [GaD.pass_some (rd_say (by omega) bC_right), if_neg (gA1_new (by omega) bC_right (fun e => by have := congrArg MsgD.fm e; simp [sayM] at this)), if_pos (by simp [gA1, sayM]), if_pos (by rfl), GaD.passB_some (b := (sayM 2 bC).bk) (gA1_find bAC_name)]
  have : ¬ bA = (sayM 2 bC).bk := fun e => by have := congrArg BlkD.txs e; simp [bA, bC, sayM] at this
  rw [decide_eq_false this]
theorem gA_5 : gA1.pass (sayM 3 bA).bytes = (gA1, false) := by
  rw [GaD.pass_some (rd_say (by omega) bA_right), if_neg (gA1_new (by omega) bA_right (fun e => by have := congrArg MsgD.fm e; simp [sayM] at this)), if_neg (by simp [gA1, sayM])]
theorem gA_6 : gA1.pass (sayM 1 bA).bytes = (gA1, true) := by
  rw [GaD.pass_said (by simp [gA1]), rd_say (by omega) bA_right]; rfl
theorem recC {F : Nat → Prop} {w : World} {e : TypeId} {v : Value} (h : RowN F w e 2 v [[.int .i64 1, .int .i64 0]]) : Recs 2 TxR w v bC.txs :=
  h.recs rfl fun k row d h1 h2 => by
    cases k with
    | zero =>
      simp [bC] at h1 h2
      subst h1 h2
      exact ⟨rfl, ⟨by simp, by simp⟩⟩
    | succ k => simp at h1
theorem Try.enTxG : ElN Try.prog 44 43 2 16 (.agg #[.int .i64 0, .int .i64 0]) := ElN.of Try.underlying44 (by kernel_rfl) rfl (by omega) (by omega)
set_option maxRecDepth 100000 in
set_option maxHeartbeats 3200000 in
theorem gateAlive_any (w : World) : Calls Try.prog 9 #[] w fun e w' => e = .returned (.bool true) ∧ Ext w w' := by
  refine calls_keep ?_
  have hX := Ext.refl w
  have s1 : True := trivial
  have s3 : True := trivial
  have s4 : True := trivial
  have s5 : True := trivial
  have s6 : True := trivial
  have p1 : True := trivial
  have p3 : True := trivial
  have p4 : True := trivial
  have p5 : True := trivial
  have p6 : True := trivial
  have s2 : True := trivial
  have hnil : ∀ w' : World, Recs 2 TxR w' (.slice none 0 0) bA.txs := fun w' => (RowN.nil (F := fun _ => True) w' 0 2).recs rfl (by simp)
  replace hnil := hide_ hnil
  go_enter Try.func9, Try.ntmps9
  go_upto_region 5 with ((first
    | go_big_skip
    | ((with_reducible refine at_lit ?_); refine w_new Try.elI (i64s [2]) rfl rfl rfl (i64s_cells _) rfl (by omega) ?_; intro vl w1 hx ol; replace ol := hide_ (show OwnI _ w1 vl [2] from ol).ints; replace hX := hX.trans hx; clear hx)
    | (go_at_call 8; refine (GNew_any ol.out (by simp)).mono ?_; rintro e w2 ⟨p, rfl, g1, g2, vb, G0, hG00, hx, hnew⟩; have hG0 := hide_ (show GaW G0 w2 p g1 g2 vb gA0 from hG00); have hGlt := hide_ (fun k (hk : G0 k) => (hnew k hk).2); have hgW := hide_ (show ∀ k, gm g1 g2 k → w.heap.size ≤ k from fun k hk => Nat.le_trans hX.size (hnew k (hk.elim (fun e => e ▸ hG00.inG.2.1) fun e => e ▸ hG00.inG.2.2.1)).1); clear hG00 hnew ol; replace hX := hX.trans hx; clear hx)
    | ((with_reducible refine at_sbuild ?_); refine w_sbuild (o := ⟨some 9, _, _, _, _, _⟩) Try.stBlk [.int .i64 1, .int .i64 1, .int .i64 0, .int .i64 0, .slice none 0 0] rfl rfl rfl ?_ ?_; focus (intro y hy; simp at hy; rcases hy with rfl | rfl <;> exact ⟨by decide, rfl⟩))
    | ((with_reducible refine at_sbuild ?_); refine w_sbuild (o := ⟨some 10, _, _, _, _, _⟩) Try.stTx [.int .i64 1, .int .i64 0] rfl rfl rfl ?_ ?_; focus (intro y hy; simp at hy; rcases hy with rfl; exact ⟨by decide, rfl⟩))
    | ((with_reducible refine at_lit ?_); refine w_nnew Try.enTxG [[.int .i64 1, .int .i64 0]] rfl rfl rfl (by simp) rfl (by omega) ?_; intro v11 w11 B hB1 hB2 hx n11; have hu3 := hide_ (recC n11); have h11 := hide_ hu3.out.oneC; have h11lt := hide_ (fun k (hk : v11.ownBlock = some k) => n11.lt hk); have hs11 := hide_ hx.size; replace hG0 := hide_ (hG0.out.ext hx); clear n11 hB1 hB2; replace hX := hX.trans hx; clear hx)
    | ((with_reducible refine at_sbuild ?_); refine w_sbuild (o := ⟨some 12, _, _, _, _, _⟩) Try.stBlk [.int .i64 1, .int .i64 1, .int .i64 0, .int .i64 0, v11] rfl rfl rfl ?_ ?_; focus (intro y hy; simp at hy; rcases hy with rfl | rfl | rfl; exact ⟨by decide, rfl⟩; exact ⟨by decide, rfl⟩; exact ⟨by decide, oneCell_cells h11.out⟩))
    | ((with_reducible refine at_alloc ?_); refine w_alloc (o := ⟨some 2, _, _, _, _, _⟩) Try.stBlk rfl rfl ?_; intro b2 w3 hb2 hx f2; have hb2o := hide_ hb2; have hz2 := hide_ (show (∀ k, G0 k → ¬ k = b2) ∧ ∀ k, v11.ownBlock = some k → ¬ k = b2 from ⟨fun k hk e => by have h1 := hGlt.out k hk; have h2 := hs11.out; omega, fun k hk e => by have h1 := h11lt.out k hk; omega⟩); replace hb2 := hide_ (Nat.le_trans hX.size hb2); replace hu3 := hide_ (hu3.out.ext TxR.stays hx); replace hG0 := hide_ (hG0.out.ext hx); replace hX := hX.trans hx; clear hx)
    | ((with_reducible refine at_alloc ?_); refine w_alloc (o := ⟨some 3, _, _, _, _, _⟩) Try.stBlk rfl rfl ?_; intro b3 w4 hb3 hx f3; have h23 := hide_ (show ¬ b2 = b3 from fun e => by have := f2.lt; omega); have hz3 := hide_ (show (∀ k, G0 k → ¬ k = b3) ∧ ∀ k, v11.ownBlock = some k → ¬ k = b3 from ⟨fun k hk e => by have h1 := hGlt.out k hk; have h2 := hs11.out; have h3 := hb2o.out; have h4 := f2.lt; omega, fun k hk e => by have h1 := h11lt.out k hk; have h3 := hb2o.out; have h4 := f2.lt; omega⟩); replace hb3 := hide_ (Nat.le_trans hX.size hb3); replace f2 := f2.ext hx; replace hu3 := hide_ (hu3.out.ext TxR.stays hx); replace hG0 := hide_ (hG0.out.ext hx); replace hX := hX.trans hx; clear hx)
    | ((with_reducible refine at_store ?_); refine w_astore Try.stBlk (.tmp 2) _ (us := bRw bA (.slice none 0 0)) rfl rfl rfl rfl rfl f2 rfl rfl (blk_one rfl) ?_; intro w5 hm5 f2'; replace f2 : Fs w5 b2 (bRw bA (.slice none 0 0)) := f2'; replace f3 := f3.mod hm5 (fun e => h23.out e.symm); replace hu3 := hide_ (recsT_modB hu3.out hm5 hz2.out.2); replace hG0 := hide_ (hG0.out.mod hm5 hz2.out.1); replace hX := hm5.after hX (fun i e => e ▸ hb2.out); clear hm5 f2')
    | ((with_reducible refine at_store ?_); refine w_astore Try.stBlk (.tmp 3) _ (us := bRw bC v11) rfl rfl rfl rfl rfl f3 rfl rfl (blk_one h11.out) ?_; intro w5 hm5 f3'; replace f3 : Fs w5 b3 (bRw bC v11) := f3'; replace f2 := f2.mod hm5 h23.out; replace hu3 := hide_ (recsT_modB hu3.out hm5 hz3.out.2); replace hG0 := hide_ (hG0.out.mod hm5 hz3.out.1); replace hX := hm5.after hX (fun i e => e ▸ hb3.out); clear hm5 f3')
    | ((with_reducible refine at_load ?_); (try refine w_yes _ _ _ rfl rfl rfl ?_); refine w_aload Try.stBlk (cs := bRw bA (.slice none 0 0)) _ rfl rfl rfl f2 rfl ?_)
    | ((with_reducible refine at_load ?_); (try refine w_yes _ _ _ rfl rfl rfl ?_); refine w_aload Try.stBlk (cs := bRw bC v11) _ rfl rfl rfl f3 rfl ?_)
    | fail) <;> (try simp only [Act.put, List.setIfInBounds_toArray, List.set_cons_zero, List.set_cons_succ]))
  clear hGlt h11lt hs11 hb2o hz2 hz3 h23 hb2 hb3 h11
  go_wp2_with ((first
    | go_big_skip
    | ((with_reducible refine at_load ?_); (try refine w_yes _ _ _ rfl rfl rfl ?_); refine w_aload Try.stBlk (cs := bRw bA (.slice none 0 0)) _ rfl rfl rfl f2 rfl ?_)
    | ((with_reducible refine at_load ?_); (try refine w_yes _ _ _ rfl rfl rfl ?_); refine w_aload Try.stBlk (cs := bRw bC v11) _ rfl rfl rfl f3 rfl ?_)
    | (have _t := s1; go_at_call 21; refine (say_any (f := 2) (b := bA) (u := (.slice none 0 0)) (by omega) bA_right (hnil.out _) (by simp [I64, bA])).mono ?_; rintro e w5 ⟨v1, rfl, o0, hx⟩; have v1b := hide_ o0.byt; have v1n := hide_ (fun k hk => own_block_lt (g := k) o0 hk); replace f2 := f2.ext hx; replace f3 := f3.ext hx; replace hu3 := hide_ (hu3.out.ext TxR.stays hx); replace hG0 := hide_ (hG0.out.ext hx); clear o0; replace hX := hX.trans hx; clear hx; clear s1 _t)
    | (have _t := p1; go_at_call 10; refine (GPass_any hG0.out (x := (sayM 2 bA).bytes) (MsgD.bytes_lt _) (Nat.le_trans (MsgD.bytes_len (sayM_right (by omega) bA_right)) (by omega)) v1b.out (by unfold gA0; simp)).mono ?_; rintro e w6 ⟨rfl, G', hG', hN⟩; rw [gA_1] at hG' ⊢; have hM := hG0.out.maps; replace hu3 := hide_ (recsT_mapmod hu3.out hN.mod hM); have hM := hG0.out.maps; replace f2 := f2.mapmod hN.mod hM; replace f3 := f3.mapmod hN.mod hM; replace hX := hN.mod.after hX hgW.out; replace hG0 := hide_ (show GaW G' _ p g1 g2 vb gA0 from hG'); clear hG' hN hM; clear p1 _t)
    | (have _t := s2; go_at_call 21; refine (say_any (f := 1) (b := bA) (u := (.slice none 0 0)) (by omega) bA_right (hnil.out _) (by simp [I64, bA])).mono ?_; rintro e w5 ⟨v2, rfl, o0, hx⟩; have v2b := hide_ o0.byt; have v2n := hide_ (fun k hk => own_block_lt (g := k) o0 hk); replace f2 := f2.ext hx; replace f3 := f3.ext hx; replace hu3 := hide_ (hu3.out.ext TxR.stays hx); replace hG0 := hide_ (hG0.out.ext hx); clear o0; replace hX := hX.trans hx; clear hx; clear s2 _t)
    | (go_at_call 12; refine (GSay_any hG0.out (x := (sayM 1 bA).bytes) (MsgD.bytes_lt _) (Nat.le_trans (MsgD.bytes_len (sayM_right (by omega) bA_right)) (by omega)) v2b.out (by unfold gA0; simp)).mono ?_; rintro e w6 ⟨rfl, G', hG', hN⟩; rw [gA_2] at hG'; have hM := hG0.out.maps; replace hu3 := hide_ (recsT_mapmod hu3.out hN.mod hM); have hM := hG0.out.maps; replace f2 := f2.mapmod hN.mod hM; replace f3 := f3.mapmod hN.mod hM; replace hX := hN.mod.after hX hgW.out; replace hG0 := hide_ (show GaW G' _ p g1 g2 vb gA1 from hG'); clear hG' hN hM)
    | (have _t := s3; go_at_call 21; refine (say_any (f := 2) (b := bA) (u := (.slice none 0 0)) (by omega) bA_right (hnil.out _) (by simp [I64, bA])).mono ?_; rintro e w5 ⟨v3, rfl, o0, hx⟩; have v3b := hide_ o0.byt; have v3n := hide_ (fun k hk => own_block_lt (g := k) o0 hk); replace f2 := f2.ext hx; replace f3 := f3.ext hx; replace hu3 := hide_ (hu3.out.ext TxR.stays hx); replace hG0 := hide_ (hG0.out.ext hx); clear o0; replace hX := hX.trans hx; clear hx; clear s3 _t)
    | (have _t := p3; go_at_call 10; refine (GPass_any hG0.out (x := (sayM 2 bA).bytes) (MsgD.bytes_lt _) (Nat.le_trans (MsgD.bytes_len (sayM_right (by omega) bA_right)) (by omega)) v3b.out (by unfold gA1; simp)).mono ?_; rintro e w6 ⟨rfl, G', hG', hN⟩; rw [gA_3] at hG' ⊢; have hM := hG0.out.maps; replace hu3 := hide_ (recsT_mapmod hu3.out hN.mod hM); have hM := hG0.out.maps; replace f2 := f2.mapmod hN.mod hM; replace f3 := f3.mapmod hN.mod hM; replace hX := hN.mod.after hX hgW.out; replace hG0 := hide_ (show GaW G' _ p g1 g2 vb gA1 from hG'); clear hG' hN hM; clear p3 _t)
    | (have _t := s4; go_at_call 21; refine (say_any (f := 2) (b := bC) (u := v11) (by omega) bC_right hu3.out (by simp [I64, bC])).mono ?_; rintro e w5 ⟨v4, rfl, o0, hx⟩; have v4b := hide_ o0.byt; have v4n := hide_ (fun k hk => own_block_lt (g := k) o0 hk); replace f2 := f2.ext hx; replace f3 := f3.ext hx; replace hu3 := hide_ (hu3.out.ext TxR.stays hx); replace hG0 := hide_ (hG0.out.ext hx); clear o0; replace hX := hX.trans hx; clear hx; clear s4 _t)
    | (have _t := p4; go_at_call 10; refine (GPass_any hG0.out (x := (sayM 2 bC).bytes) (MsgD.bytes_lt _) (Nat.le_trans (MsgD.bytes_len (sayM_right (by omega) bC_right)) (by omega)) v4b.out (by unfold gA1; simp)).mono ?_; rintro e w6 ⟨rfl, G', hG', hN⟩; rw [gA_4] at hG' ⊢; have hM := hG0.out.maps; replace hu3 := hide_ (recsT_mapmod hu3.out hN.mod hM); have hM := hG0.out.maps; replace f2 := f2.mapmod hN.mod hM; replace f3 := f3.mapmod hN.mod hM; replace hX := hN.mod.after hX hgW.out; replace hG0 := hide_ (show GaW G' _ p g1 g2 vb gA1 from hG'); clear hG' hN hM; clear p4 _t)
    | (have _t := s5; go_at_call 21; refine (say_any (f := 3) (b := bA) (u := (.slice none 0 0)) (by omega) bA_right (hnil.out _) (by simp [I64, bA])).mono ?_; rintro e w5 ⟨v5, rfl, o0, hx⟩; have v5b := hide_ o0.byt; have v5n := hide_ (fun k hk => own_block_lt (g := k) o0 hk); replace f2 := f2.ext hx; replace f3 := f3.ext hx; replace hu3 := hide_ (hu3.out.ext TxR.stays hx); replace hG0 := hide_ (hG0.out.ext hx); clear o0; replace hX := hX.trans hx; clear hx; clear s5 _t)
    | (have _t := p5; go_at_call 10; refine (GPass_any hG0.out (x := (sayM 3 bA).bytes) (MsgD.bytes_lt _) (Nat.le_trans (MsgD.bytes_len (sayM_right (by omega) bA_right)) (by omega)) v5b.out (by unfold gA1; simp)).mono ?_; rintro e w6 ⟨rfl, G', hG', hN⟩; rw [gA_5] at hG' ⊢; have hM := hG0.out.maps; replace hu3 := hide_ (recsT_mapmod hu3.out hN.mod hM); have hM := hG0.out.maps; replace f2 := f2.mapmod hN.mod hM; replace f3 := f3.mapmod hN.mod hM; replace hX := hN.mod.after hX hgW.out; replace hG0 := hide_ (show GaW G' _ p g1 g2 vb gA1 from hG'); clear hG' hN hM; clear p5 _t)
    | (have _t := s6; go_at_call 21; refine (say_any (f := 1) (b := bA) (u := (.slice none 0 0)) (by omega) bA_right (hnil.out _) (by simp [I64, bA])).mono ?_; rintro e w5 ⟨v6, rfl, o0, hx⟩; have v6b := hide_ o0.byt; have v6n := hide_ (fun k hk => own_block_lt (g := k) o0 hk); replace f2 := f2.ext hx; replace f3 := f3.ext hx; replace hu3 := hide_ (hu3.out.ext TxR.stays hx); replace hG0 := hide_ (hG0.out.ext hx); clear o0; replace hX := hX.trans hx; clear hx; clear s6 _t)
    | (have _t := p6; go_at_call 10; refine (GPass_any hG0.out (x := (sayM 1 bA).bytes) (MsgD.bytes_lt _) (Nat.le_trans (MsgD.bytes_len (sayM_right (by omega) bA_right)) (by omega)) v6b.out (by unfold gA1; simp)).mono ?_; rintro e w6 ⟨rfl, G', hG', hN⟩; rw [gA_6] at hG' ⊢; have hM := hG0.out.maps; replace hu3 := hide_ (recsT_mapmod hu3.out hN.mod hM); have hM := hG0.out.maps; replace f2 := f2.mapmod hN.mod hM; replace f3 := f3.mapmod hN.mod hM; replace hX := hN.mod.after hX hgW.out; replace hG0 := hide_ (show GaW G' _ p g1 g2 vb gA1 from hG'); clear hG' hN hM; clear p6 _t)
    | (go_at_call 11; refine (GBad_any hG0.out 2).mono ?_; rintro e w6 ⟨rfl, hx⟩; rw [show decide ((2 : Int) ∈ gA1.bad) = true from by decide]; replace f2 := f2.ext hx; replace f3 := f3.ext hx; replace hu3 := hide_ (hu3.out.ext TxR.stays hx); replace hG0 := hide_ (hG0.out.ext hx); replace hX := hX.trans hx; clear hx)
    | (go_at_call 11; refine (GBad_any hG0.out 1).mono ?_; rintro e w6 ⟨rfl, hx⟩; rw [show decide ((1 : Int) ∈ gA1.bad) = false from by decide]; replace f2 := f2.ext hx; replace f3 := f3.ext hx; replace hu3 := hide_ (hu3.out.ext TxR.stays hx); replace hG0 := hide_ (hG0.out.ext hx); replace hX := hX.trans hx; clear hx)
    | fail) <;> (try simp only [Act.put, List.setIfInBounds_toArray, List.set_cons_zero, List.set_cons_succ]))
  go_ret
  exact Keep.intro ⟨rfl, hX⟩
end Go.Proofs.Ytgbhbifdfcfamaa
