/- Package gate: New, Bad, the bytes of a block, whether a name is taken; it is taken. -/
import Derived.Test.YtgbhbifdfcfamaaGtA
import Derived.Test.YtgbhbifdfcfamaaFldB
import Derived.Test.YtgbhbifdfcfamaaRegC
import Derived.Test.YtgbhbifdfcfamaaICl
import Derived.Deep.Cut
namespace Go.Proofs.Ytgbhbifdfcfamaa
set_option maxRecDepth 100000
open Go.RowKit Go.ChangeShapes Go.WideShapes Go.ChangeAt

/-- What a gate's call leaves: both maps at most, and new blocks. -/
structure GaN (G G' : Nat → Prop) (w w' : World) (g1 g2 : Nat) : Prop where
  mod : Mod (gm g1 g2) w w'
  sub : ∀ k, G' k → G k ∨ (w.heap.size ≤ k ∧ k < w'.heap.size)
theorem GaN.ofExt {G : Nat → Prop} {w w' : World} {g1 g2 : Nat} (h : Ext w w') : GaN G G w w' g1 g2 := ⟨h.mod _, fun _ h => .inl h⟩
theorem GaN.trans {G G' G'' : Nat → Prop} {w w' w'' : World} {g1 g2 : Nat} (h : GaN G G' w w' g1 g2) (k : GaN G' G'' w' w'' g1 g2) : GaN G G'' w w'' g1 g2 :=
  ⟨h.mod.trans k.mod (fun _ _ e => e), fun i hi => by
    have h1 := h.mod.size
    have h2 := k.mod.size
    rcases k.sub i hi with h3 | h3
    · rcases h.sub i h3 with h4 | h4
      · exact .inl h4
      · exact .inr ⟨h4.1, by omega⟩
    · exact .inr ⟨by omega, h3.2⟩⟩
theorem World.ownsMap.same {w : World} {P : Program} {k : TypeId} {R : Value → Option (DataW Value × List MemPlace)} {b n m : Nat} {D E : DataW Value} (h : w.ownsMap P k R b n D) (h' : w.ownsMap P k R b m E) : D = E := by
  obtain ⟨es, c, h1, _, _, rfl⟩ := h
  obtain ⟨es', c', h2, _, _, rfl⟩ := h'
  rw [h1] at h2; injection h2 with h2; injection h2 with h2 _; rw [h2]
theorem SlS.mapmod {F : Nat → Prop} {w w' : World} {v : Value} {n : Nat} {rows : List (List Value)} (h : SlS w v n rows) (hn : 0 < n) (hm : Mod F w w') (hF : ∀ k, F k → IsMapB w k) : SlS w' v n rows := by
  obtain ⟨A, c, rfl, h2, h3, h4⟩ := h
  refine ⟨A, c, rfl, h2, h3, fun k row hk => ?_⟩
  obtain ⟨h5, ad, rfl, h7⟩ := h4 k row hk
  refine ⟨h5, ad, rfl, h7.mod hm fun hf => ?_⟩
  obtain ⟨es, c, hq⟩ := hF _ hf
  cases row with
  | nil => simp at h5; omega
  | cons y r =>
    have := h7 0 y rfl
    rw [Addr.add_zero'] at this
    simp [World.cell?, hq] at this
theorem recsT_mapmod {F : Nat → Prop} {w w' : World} {v : Value} {l : List TxD} (h : Recs 2 TxR w v l) (hm : Mod F w w') (hF : ∀ k, F k → IsMapB w k) : Recs 2 TxR w' v l := by
  obtain ⟨rows, h1, h2, h3⟩ := h
  exact ⟨rows, h1.mapmod (by omega) hm hF, h2, fun k row d hk hd => h3 k row d hk hd⟩
theorem run_ubuild (w : World) : (Instr.build 67 #[]).run Try.prog w = .ok (.agg #[]) w := by kernel_rfl
theorem runs_ubuild {o : Oper} {ρ : Operand → Value} {w : World} (ho : o.op = .build 67 #[]) : Runs Try.prog o ρ w (.agg #[]) := by
  unfold Runs execOp
  simp [ho, run_ubuild]
theorem Try.stEN : StN Try.prog 67 0 [] := StN.of (by kernel_rfl) (by kernel_rfl) rfl
theorem BlkD.name_i64 (b : BlkD) : I64 b.name := by
  unfold BlkD.name
  split
  · next h =>
    have h1 := h.s; have h2 := h.m; have h3 := h.v
    unfold BlkD.nm I64; omega
  · unfold I64; omega
theorem Recs.oneC {α : Type} {n : Nat} {R : World → List Value → α → Prop} {w : World} {v : Value} {l : List α} (h : Recs n R w v l) : v.oneCell' = true := by
  obtain ⟨rows, ⟨A, c, rfl, _⟩, _⟩ := h; rfl
theorem MsgD.Right.rawG {d : MsgD} (h : d.Right) : I64 d.vl ∧ I64 d.bk.parent := by
  obtain ⟨_, _, _, _, h5, _⟩ := h.bound
  refine ⟨by unfold I64; omega, ?_⟩
  by_cases hk : d.kd = 1
  · rcases (h.bkOk hk).p with h1 | ⟨h1, _⟩
    · unfold I64; omega
    · have := MsgD.nm_le h1; unfold I64; omega
  · rw [h.bkNo hk]; unfold I64 BlkD.zero; simp
theorem nameR {w : World} {u : Value} {b : BlkD} (hu : Recs 2 TxR w u b.txs) (hp : I64 b.parent) : Calls Try.prog 48 #[.agg #[.int .i64 b.slot, .int .i64 b.miner, .int .i64 b.var, .int .i64 b.parent, u]] w fun e w' => ∃ v', e = .returned v' ∧ Ext w w' ∧ Sp.p (.val (.int .i64 b.name)) v' w' := by
  refine (BName_any hu hp).mono ?_
  rintro e w' ⟨rfl, hx⟩; exact ⟨_, rfl, hx, rfl⟩
set_option maxRecDepth 100000 in
set_option maxHeartbeats 3200000 in
theorem GNew_any {w : World} {v : Value} {l : List Int} (h0 : Ints w v l) (hl0 : l.length * 8 ≤ 140737488355328) :
    Calls Try.prog 8 #[v] w fun e w' => ∃ p, e = .returned (.pointer (some ⟨p, 0, none⟩)) ∧ ∃ g1 g2 v' G, GaW G w' p g1 g2 v' ⟨l, [], []⟩ ∧ Ext w w' ∧ ∀ k, G k → w.heap.size ≤ k ∧ k < w'.heap.size := by
  refine calls_keep ?_
  have hr := hide_ h0
  have hl := hide_ hl0
  have hX := Ext.refl w
  clear h0 hl0
  go_enter Try.func8, Try.ntmps8
  go_wp2_with ((first
    | (go_at_call 20; refine (IClone_any (hr.out.ext hX) hl.out).mono ?_; rintro e w2 ⟨v2, rfl, o2, hx⟩; have hb2 := hide_ (fun k hk => own_block_lt (g := k) o2 hk); replace o2 := hide_ o2; replace hX := hX.trans hx; clear hx)
    | (refine w_gmake (t := 59) (k := 9) (R := unitElem) rfl rfl ?_; intro a1 w3 hg1 hx m1; replace o2 := hide_ (own_ext o2.out hx); have s3 := hide_ (Nat.le_trans hX.size hg1); have z3 := hide_ (Nat.lt_of_lt_of_le (Nat.lt_succ_self _) (Nat.succ_le_of_lt m1.lt)); replace hX := hX.trans hx; clear hx)
    | (refine w_gmake (t := 60) (k := 3) (R := tok) rfl rfl ?_; intro a2 w4 hg2 hx m2; replace o2 := hide_ (own_ext o2.out hx); have s4 := hide_ (Nat.le_trans hX.size hg2); have z4 := hide_ m1.lt; have z41 := hide_ hg2; replace m1 := ownsMap_ext m1 hx; replace hX := hX.trans hx; clear hx)
    | ((with_reducible refine at_sbuild ?_); refine w_sbuild Try.stGa [v2, .map (some a1), .map (some a2)] rfl rfl rfl (by intro y hy; simp at hy; rcases hy with rfl | rfl | rfl; exact ⟨by decide, oneCell_cells (Sl.of_own o2.out).one'⟩; exact ⟨by decide, rfl⟩; exact ⟨by decide, rfl⟩) ?_)
    | ((with_reducible refine at_box ?_); refine w_box _ [v2, .map (some a1), .map (some a2)] rfl rfl rfl rfl ?_; intro p w5 hp hx f5; replace o2 := hide_ (own_ext o2.out hx); have s5 := hide_ (Nat.le_trans hX.size hp); replace m1 := ownsMap_ext m1 hx; replace m2 := ownsMap_ext m2 hx; replace hX := hX.trans hx; clear hx)
    | fail) <;> (try simp only [Act.put, List.setIfInBounds_toArray, List.set_cons_zero, List.set_cons_succ]))
  go_ret
  have hlt := fun k hk => own_block_lt (g := k) (w := w5) (v := v2) o2.out hk
  refine Keep.intro ⟨p, rfl, a1, a2, v2, fun k => w.heap.size ≤ k ∧ k < w5.heap.size, ⟨f5, Sl.of_own o2.out, ⟨_, m1, fun x _ => by simp [Maps.has_eq]⟩, ⟨_, m2, fun n _ => ⟨rfl, rfl⟩⟩, ?_, ⟨⟨s5.out, f5.lt⟩, ⟨s3.out, m1.lt⟩, ⟨s4.out, m2.lt⟩, fun k hk => ⟨(hb2.out k hk).1, (hlt k hk).2⟩⟩, ⟨fun b hb => (nomatch hb), List.nodup_nil⟩⟩, hX, fun k hk => hk⟩
  have := z4.out; have := z41.out; omega
set_option maxRecDepth 100000 in
set_option maxHeartbeats 3200000 in
theorem GBad_any {G : Nat → Prop} {w : World} {p g1 g2 : Nat} {v : Value} {g : GaD} (h0 : GaW G w p g1 g2 v g) (n : Int) :
    Calls Try.prog 11 #[.pointer (some ⟨p, 0, none⟩), .int .i64 n] w fun e w' => e = .returned (.bool (decide (n ∈ g.bad))) ∧ Ext w w' := by
  refine calls_keep ?_
  have hG := hide_ h0
  have hX := Ext.refl w
  obtain ⟨q, hq0⟩ : ∃ q, decide (n ∈ g.bad) = q := ⟨_, rfl⟩
  have hq := hide_ hq0
  rw [hq0]
  clear h0 hq0
  go_enter Try.func11, Try.ntmps11
  go_wp2_with ((first
    | ((with_reducible refine at_nilc ?_); (try refine w_yes _ _ _ rfl rfl rfl ?_); refine w_nilP _ rfl rfl rfl ?_)
    | ((with_reducible refine at_field ?_); (try refine w_yes _ _ _ rfl rfl rfl ?_); refine w_field Try.stGa _ _ _ rfl rfl rfl (by omega) ?_)
    | ((with_reducible refine at_load ?_); (try refine w_yes _ _ _ rfl rfl rfl ?_); refine w_fload _ rfl rfl rfl (hG.out.obj.ext hX) rfl (agg_of (by kernel_rfl)) ?_)
    | (go_at_call 24; refine (Contains_any (hG.out.bad.ext hX)).mono ?_; rintro e w2 ⟨rfl, hx⟩; rw [hq.out]; replace hX := hX.trans hx; clear hx)
    | fail) <;> (try simp only [Act.put, List.setIfInBounds_toArray, List.set_cons_zero, List.set_cons_succ]))
  go_ret
  exact Keep.intro ⟨rfl, hX⟩
set_option maxRecDepth 100000 in
set_option maxHeartbeats 3200000 in
theorem bytesOf_any {w : World} {u : Value} {b : BlkD} (hr0 : b.Right) (hu0 : Recs 2 TxR w u b.txs) (hp0 : I64 b.parent) :
    Calls Try.prog 49 #[.agg #[.int .i64 b.slot, .int .i64 b.miner, .int .i64 b.var, .int .i64 b.parent, u]] w fun e w' => ∃ v', e = .returned v' ∧ OwnB w.heap.size w' v' b.bytes ∧ Ext w w' := by
  refine calls_keep ?_
  have hu := hide_ hu0
  have hp := hide_ hp0
  have hX := Ext.refl w
  have hbb := hide_ (show bB b = b.bytes from if_pos hr0)
  have hbe := hide_ (show bE b = 0 from if_pos hr0)
  clear hr0 hu0 hp0
  go_enter Try.func49, Try.ntmps49
  go_wp2_with ((first
    | ((with_reducible refine at_box ?_); refine w_box _ [.int .i64 b.slot, .int .i64 b.miner, .int .i64 b.var, .int .i64 b.parent, u] rfl rfl rfl rfl ?_; intro g3 w1 hg3 hx f3; replace hX := hX.trans hx; clear hx)
    | ((with_reducible refine at_load ?_); refine w_aload Try.stBlk _ rfl rfl rfl f3 rfl ?_)
    | (go_at_call 68; refine (BBytes_any (b := b) (hu.out.ext TxR.stays hX) hp.out).mono ?_; rintro e w2 ⟨v2, rfl, o2, hx⟩; rw [hbe.out]; rw [hbb.out] at o2; replace o2 := hide_ (show OwnB w.heap.size _ v2 b.bytes from o2.mono hX.size); replace f3 := f3.ext hx; replace hX := hX.trans hx; clear hx)
    | fail) <;> (try simp only [Act.put, List.setIfInBounds_toArray, List.set_cons_zero, List.set_cons_succ]))
  go_ret
  exact Keep.intro ⟨_, rfl, o2.out, hX⟩
theorem bytesR {lo : Nat} {w : World} {u : Value} {b : BlkD} (hlo : lo ≤ w.heap.size) (hr0 : b.Right) (hu0 : Recs 2 TxR w u b.txs) (hp0 : I64 b.parent) :
    Calls Try.prog 49 #[.agg #[.int .i64 b.slot, .int .i64 b.miner, .int .i64 b.var, .int .i64 b.parent, u]] w fun e w' => ∃ v', e = .returned v' ∧ Ext w w' ∧ Sp.p (Sp.nb lo b.bytes) v' w' := by
  refine (bytesOf_any hr0 hu0 hp0).mono ?_
  rintro e w' ⟨v', rfl, o, hx⟩
  exact ⟨v', rfl, hx, o.byt, fun k hk => ⟨Nat.le_trans hlo (own_block_lt o hk).1, (own_block_lt o hk).2⟩⟩
set_option maxRecDepth 100000 in
set_option maxHeartbeats 3200000 in
theorem equal_any {w : World} {a c : Value} {l m : List Nat} (h1 : Byt w a l) (h2 : Byt w c m) (hl0 : ∀ y ∈ l, y < 256) (hm0 : ∀ y ∈ m, y < 256) {q : Bool} (hq : decide (l = m) = q) :
    Calls Try.prog 47 #[a, c] w fun e w' => e = .returned (.bool q) ∧ Ext w w' := by
  refine calls_keep ?_
  have b1 := hide_ h1
  have b2 := hide_ h2
  have hX := Ext.refl w
  obtain ⟨s1, hs1⟩ : ∃ s, s = strN l := ⟨_, rfl⟩
  obtain ⟨s2, hs2⟩ : ∃ s, s = strN m := ⟨_, rfl⟩
  have e1 := hide_ hs1
  have e2 := hide_ hs2
  have t : (s1.toList == s2.toList) = q := by
    rw [← hq, Bool.eq_iff_iff, beq_iff_eq, decide_eq_true_iff, hs1, hs2]
    exact ⟨fun e => strN_inj hl0 hm0 (bytes_ext e), fun e => by rw [e]⟩
  clear h1 h2 hl0 hm0 hq hs1 hs2
  go_enter Try.func47, Try.ntmps47
  go_wp2_with ((first
    | ((with_reducible refine at_conv ?_); refine w_str _ rfl rfl (v := a) rfl (b1.out.ext hX) ?_; rw [← e1.out])
    | ((with_reducible refine at_conv ?_); refine w_str _ rfl rfl (v := c) rfl (b2.out.ext hX) ?_; rw [← e2.out])
    | fail) <;> (try simp only [Act.put, List.setIfInBounds_toArray, List.set_cons_zero, List.set_cons_succ]))
  go_ret
  exact Keep.intro ⟨rfl, hX⟩
theorem equalR {lo : Nat} {w : World} {a c : Value} {l m : List Nat} (h1 : Byt w a l) (h2 : Sp.p (Sp.nb lo m) c w) (hl0 : ∀ y ∈ l, y < 256) (hm0 : ∀ y ∈ m, y < 256) {q : Bool} (hq : decide (l = m) = q) :
    Calls Try.prog 47 #[a, c] w fun e w' => ∃ v', e = .returned v' ∧ Ext w w' ∧ Sp.p (.val (.bool q)) v' w' := by
  refine (equal_any h1 h2.1 hl0 hm0 hq).mono ?_
  rintro e w' ⟨rfl, hx⟩; exact ⟨_, rfl, hx, rfl⟩
set_option maxRecDepth 100000 in
set_option maxHeartbeats 3200000 in
theorem isKnown_any {G : Nat → Prop} {w : World} {p g1 g2 : Nat} {v : Value} {g : GaD} (h0 : GaW G w p g1 g2 v g) {u : Value} {b : BlkD} (hu0 : Recs 2 TxR w u b.txs) (hp0 : I64 b.parent) {q : Bool} (hq0 : (g.find b.name).isSome = q) :
    Calls Try.prog 25 #[.pointer (some ⟨p, 0, none⟩), .agg #[.int .i64 b.slot, .int .i64 b.miner, .int .i64 b.var, .int .i64 b.parent, u]] w fun e w' => e = .returned (.bool q) ∧ Ext w w' := by
  refine calls_keep ?_
  have hG := hide_ h0
  have hu := hide_ hu0
  have hp := hide_ hp0
  have hX := Ext.refl w
  have hn := hide_ b.name_i64
  obtain ⟨x0, hL0, _⟩ := h0.klook b.name_i64 hq0
  have hL := hide_ hL0
  clear h0 hu0 hp0 hq0 hL0
  go_enter Try.func25, Try.ntmps25
  go_wp2_with ((first
    | ((with_reducible refine at_box ?_); refine w_box _ [.int .i64 b.slot, .int .i64 b.miner, .int .i64 b.var, .int .i64 b.parent, u] rfl rfl rfl rfl ?_; intro g3 w1 hg3 hx f3; replace hX := hX.trans hx; clear hx)
    | fail) <;> (try simp only [Act.put, List.setIfInBounds_toArray, List.set_cons_zero, List.set_cons_succ]))
  refine wp_region_phx (by kernel_rfl) ?_; intro wd hxd; have F0 := hG.out.obj.ext (hX.trans hxd); have F3 := f3.ext hxd; have L0 := hide_ (hL.out.ext (hX.trans hxd))
  refine Ph.rest 0 12 (by kernel_rfl) ?_
  refine LinL.step (s := (.val (.pointer (some ⟨p, 0, none⟩)))) [(0, none)] rfl (by kernel_rfl) (op_out 0 (.pointer (some ⟨p, 0, none⟩)) rfl (.inl rfl) rfl) ?_
  refine LinL.step (s := (.val (.pointer (some ⟨p, 0, none⟩)))) [(8, some 0)] rfl (by kernel_rfl) (op_runs rfl fun σ w' hx hg => ⟨_, runs_nil (ρ := σ.eval) (w := w') (.tmp 8) rfl hg.1, rfl⟩) ?_
  refine LinL.step (s := (.val (.pointer (some ⟨p, 2, none⟩)))) [(9, some 0)] rfl (by kernel_rfl) (op_runs rfl fun σ w' hx hg => ⟨_, runs_field (ρ := σ.eval) (w := w') Try.stGa (.tmp 9) p 2 rfl hg.1 (by omega), rfl⟩) ?_
  refine LinL.step (s := (.val (.map (some g2)))) [(10, some 0)] rfl (by kernel_rfl) (op_runs rfl fun σ w' hx hg => ⟨_, runs_fload (ρ := σ.eval) (w := w') (.tmp 10) rfl hg.1 (agg_of (by kernel_rfl) _) (F0.ext hx) rfl, rfl⟩) ?_
  refine LinL.step (s := (.val (.agg #[.int .i64 b.slot, .int .i64 b.miner, .int .i64 b.var, .int .i64 b.parent, u]))) [(3, none)] rfl (by kernel_rfl) (op_runs rfl fun σ w' hx hg => ⟨_, runs_aload (ρ := σ.eval) (w := w') Try.stBlk (.tmp 3) rfl hg.1 (F3.ext hx) rfl, rfl⟩) ?_
  refine LinL.step (s := (.val (.int .i64 b.name))) [(12, some 0)] rfl (by kernel_rfl) (op_calls 48 #[(.tmp 12)] #[46] (fun σ => #[.agg #[.int .i64 b.slot, .int .i64 b.miner, .int .i64 b.var, .int .i64 b.parent, u]]) rfl rfl (fun _ _ => rfl) fun σ w' hx hg => ⟨by have h12 : σ.tmps.getD 12 undef = .agg #[.int .i64 b.slot, .int .i64 b.miner, .int .i64 b.var, .int .i64 b.parent, u] := hg.1; simp only [List.map_toArray, List.map_cons, List.map_nil, Act.eval, h12], nameR (b := b) (hu.out.ext TxR.stays (hX.trans (hxd.trans hx))) hp.out⟩) ?_
  refine LinL.step (s := (.val (.tuple #[x0, .bool q]))) [(11, some 2), (13, some 0)] rfl (by kernel_rfl) (op_runs rfl fun σ w' hx hg => ⟨_, runs_klook (ρ := σ.eval) (w := w') (.tmp 11) (.tmp 13) rfl hg.1 hg.2.1 hn.out (L0.out.ext hx), rfl⟩) ?_
  refine LinL.step (s := (.val (.tuple #[x0, .bool q]))) [(14, some 0)] rfl (by kernel_rfl) (op_copy 14 0 (.val (.tuple #[x0, .bool q])) rfl (.inl rfl) rfl) ?_
  refine LinL.step (s := (.val (x0))) [(7, some 0)] rfl (by kernel_rfl) (op_runs rfl fun σ w' hx hg => ⟨_, runs_extract (ρ := σ.eval) (w := w') rfl hg.1 rfl, rfl⟩) ?_
  refine LinL.step (s := (.val (.bool q))) [(7, some 1)] rfl (by kernel_rfl) (op_runs rfl fun σ w' hx hg => ⟨_, runs_extract (ρ := σ.eval) (w := w') rfl hg.1 rfl, rfl⟩) ?_
  refine LinL.step (s := (.val (x0))) [(15, some 1)] rfl (by kernel_rfl) (op_copy 15 1 (.val (x0)) rfl (.inr rfl) rfl) ?_
  refine LinL.step (s := (.val (.bool q))) [(16, some 1)] rfl (by kernel_rfl) (op_copy 16 1 (.val (.bool q)) rfl (.inr rfl) rfl) ?_
  intro wN hxN
  simp only [Fin', List.reverse_cons, List.reverse_nil, List.nil_append, List.cons_append, List.drop_zero, List.take_succ_cons, List.take_zero]
  simp only [Act.put, List.setIfInBounds_toArray, List.set_cons_zero, List.set_cons_succ]
  replace hX := hX.trans (hxd.trans hxN)
  go_wp2
  go_ret
  exact Keep.intro ⟨rfl, hX⟩
set_option maxRecDepth 100000 in
set_option maxHeartbeats 3200000 in
theorem learn_any {G : Nat → Prop} {w : World} {p g1 g2 : Nat} {v : Value} {g : GaD} (h0 : GaW G w p g1 g2 v g) {u : Value} {b : BlkD} (hr0 : b.Right) (hu0 : Recs 2 TxR w u b.txs) (hp0 : I64 b.parent) (hf0 : g.find b.name = none) (hfew0 : g.kn.length ≤ 1000) :
    Calls Try.prog 26 #[.pointer (some ⟨p, 0, none⟩), .agg #[.int .i64 b.slot, .int .i64 b.miner, .int .i64 b.var, .int .i64 b.parent, u]] w fun e w' => e = .returned (.tuple #[]) ∧ ∃ G', GaW G' w' p g1 g2 v (g.know b) ∧ GaN G G' w w' g1 g2 := by
  refine calls_keep ?_
  have hG := hide_ h0
  have hr := hide_ hr0
  have hu := hide_ hu0
  have hp := hide_ hp0
  have hf := hide_ hf0
  have hfew := hide_ hfew0
  have hX := Ext.refl w
  have hn := hide_ b.name_i64
  clear h0 hu0 hp0 hf0 hr0 hfew0
  go_enter Try.func26, Try.ntmps26
  go_wp2_with ((first
    | ((with_reducible refine at_box ?_); refine w_box _ [.int .i64 b.slot, .int .i64 b.miner, .int .i64 b.var, .int .i64 b.parent, u] rfl rfl rfl rfl ?_; intro g3 w1 hg3 hx f3; replace hX := hX.trans hx; clear hx)
    | fail) <;> (try simp only [Act.put, List.setIfInBounds_toArray, List.set_cons_zero, List.set_cons_succ]))
  refine wp_region_phx (by kernel_rfl) ?_; intro wd hxd; have F0 := hG.out.obj.ext (hX.trans hxd); have F3 := f3.ext hxd
  refine Ph.gate 0 8 (by kernel_rfl) ?_
  refine LinL.step (s := (.val (.pointer (some ⟨p, 0, none⟩)))) [(0, none)] rfl (by kernel_rfl) (op_out 0 (.pointer (some ⟨p, 0, none⟩)) rfl (.inl rfl) rfl) ?_
  refine LinL.step (s := (.val (.pointer (some ⟨p, 0, none⟩)))) [(4, some 0)] rfl (by kernel_rfl) (op_runs rfl fun σ w' hx hg => ⟨_, runs_nil (ρ := σ.eval) (w := w') (.tmp 4) rfl hg.1, rfl⟩) ?_
  refine LinL.step (s := (.val (.pointer (some ⟨p, 2, none⟩)))) [(5, some 0)] rfl (by kernel_rfl) (op_runs rfl fun σ w' hx hg => ⟨_, runs_field (ρ := σ.eval) (w := w') Try.stGa (.tmp 5) p 2 rfl hg.1 (by omega), rfl⟩) ?_
  refine LinL.step (s := (.val (.map (some g2)))) [(6, some 0)] rfl (by kernel_rfl) (op_runs rfl fun σ w' hx hg => ⟨_, runs_fload (ρ := σ.eval) (w := w') (.tmp 6) rfl hg.1 (agg_of (by kernel_rfl) _) (F0.ext hx) rfl, rfl⟩) ?_
  refine LinL.step (s := (.val (.agg #[.int .i64 b.slot, .int .i64 b.miner, .int .i64 b.var, .int .i64 b.parent, u]))) [(3, none)] rfl (by kernel_rfl) (op_runs rfl fun σ w' hx hg => ⟨_, runs_aload (ρ := σ.eval) (w := w') Try.stBlk (.tmp 3) rfl hg.1 (F3.ext hx) rfl, rfl⟩) ?_
  refine LinL.step (s := (.val (.int .i64 b.name))) [(8, some 0)] rfl (by kernel_rfl) (op_calls 48 #[(.tmp 8)] #[46] (fun σ => #[.agg #[.int .i64 b.slot, .int .i64 b.miner, .int .i64 b.var, .int .i64 b.parent, u]]) rfl rfl (fun _ _ => rfl) fun σ w' hx hg => ⟨by have h8 : σ.tmps.getD 8 undef = .agg #[.int .i64 b.slot, .int .i64 b.miner, .int .i64 b.var, .int .i64 b.parent, u] := hg.1; simp only [List.map_toArray, List.map_cons, List.map_nil, Act.eval, h8], nameR (b := b) (hu.out.ext TxR.stays (hX.trans (hxd.trans hx))) hp.out⟩) ?_
  refine LinL.step (s := (.val (.agg #[.int .i64 b.slot, .int .i64 b.miner, .int .i64 b.var, .int .i64 b.parent, u]))) [(3, none)] rfl (by kernel_rfl) (op_runs rfl fun σ w' hx hg => ⟨_, runs_aload (ρ := σ.eval) (w := w') Try.stBlk (.tmp 3) rfl hg.1 (F3.ext hx) rfl, rfl⟩) ?_
  refine LinL.step (s := (Sp.nb w.heap.size b.bytes)) [(10, some 0)] rfl (by kernel_rfl) (op_calls 49 #[(.tmp 10)] #[46] (fun σ => #[.agg #[.int .i64 b.slot, .int .i64 b.miner, .int .i64 b.var, .int .i64 b.parent, u]]) rfl rfl (fun _ _ => rfl) fun σ w' hx hg => ⟨by have h10 : σ.tmps.getD 10 undef = .agg #[.int .i64 b.slot, .int .i64 b.miner, .int .i64 b.var, .int .i64 b.parent, u] := hg.1; simp only [List.map_toArray, List.map_cons, List.map_nil, Act.eval, h10], bytesR (b := b) (Nat.le_trans (hX.trans hxd).size hx.size) hr.out (hu.out.ext TxR.stays (hX.trans (hxd.trans hx))) hp.out⟩) ?_
  intro wN hxN
  simp only [Fin', Sp.nb, List.reverse_cons, List.reverse_nil, List.nil_append, List.cons_append, List.drop_zero, List.take_succ_cons, List.take_zero]
  intro q11 hq11
  simp only [Act.put, List.setIfInBounds_toArray, List.set_cons_zero, List.set_cons_succ]
  replace hX := (hX.trans hxd).trans hxN
  have hq := hide_ hq11
  have hGe := hide_ (hG.out.ext hX)
  obtain ⟨D2, o2, k2⟩ := hGe.out.m2
  refine wpOp_of_list rfl ?_
  refine w_gput Try.kI Try.underlying60 _ _ _ (d := .held q11) rfl rfl rfl rfl rfl rfl o2 (by have := hfew.out; omega) (ik_key hn.out) rfl ?_; intro w9 hm9 o9
  have hK := hide_ (hGe.out.mono (G' := fun k => G k ∨ (w.heap.size ≤ k ∧ k < wN.heap.size)) fun k h => .inl h)
  obtain ⟨D3, o3, k3⟩ := hK.out.m2
  have hD := hide_ (World.ownsMap.same o2 o3)
  rw [hD.out] at o9
  have hG9 := hide_ (hK.out.known o3 k3 hm9 o9 hf.out hr.out hq.out.1 fun k hk => ⟨.inr (hq.out.2 k hk), (hq.out.2 k hk).2⟩)
  have hN9 := hide_ (show GaN G (fun k => G k ∨ (w.heap.size ≤ k ∧ k < wN.heap.size)) w w9 g1 g2 from ⟨((hX.mod _).trans hm9 (fun i _ e => e)).mono (fun i _ e => .inr e), fun k hk => hk.elim .inl fun e => .inr ⟨e.1, Nat.lt_of_lt_of_le e.2 hm9.size⟩⟩)
  clear o2 k2 o3 k3 hD o9 hm9 hK hGe
  show Ph Try.prog _ _ 9 _ _
  refine Ph.rest 9 0 (by kernel_rfl) ?_
  intro wM hxM
  simp only [Fin', List.reverse_nil, List.drop_zero, List.drop_succ_cons, List.take_zero]
  go_wp2
  go_end0
  exact Keep.intro ⟨rfl, _, hG9.out.ext hxM, hN9.out.trans (GaN.ofExt hxM)⟩
end Go.Proofs.Ytgbhbifdfcfamaa
