/- A block made known: its record laid into the map. -/
import Derived.Test.YtdacclcaopmalaaTrT
namespace Go.Proofs.Ytdacclcaopmalaa
set_option maxRecDepth 100000
open Go.RowKit

theorem run_kbuild (a b c d : Int) (u : Value) (h : Int) (w : World) : (Instr.build 95 #[(0, .agg #[.int .i64 a, .int .i64 b, .int .i64 c, .int .i64 d, u]), (1, .int .i64 h)]).run Try.prog w = .ok (.agg #[.int .i64 a, .int .i64 b, .int .i64 c, .int .i64 d, u, .int .i64 h]) w := by
  unfold Instr.build
  simp [run_underlying Try.underlying95, Try.sizeOf54, Try.sizeOf3, Instr.fill, Value.cells]
theorem runs_kbuild {o : Oper} {ρ : Operand → Value} {w : World} (x y : Operand) {b : BlkD} {u : Value} {h : Int} (ho : o.op = .build 95 #[(0, x), (1, y)]) (hx : ρ x = .agg #[.int .i64 b.slot, .int .i64 b.miner, .int .i64 b.var, .int .i64 b.parent, u]) (hy : ρ y = .int .i64 h) : Runs Try.prog o ρ w (kVal b u h) := by
  have hr := run_kbuild b.slot b.miner b.var b.parent u h w
  unfold Runs execOp kVal
  simp [ho, hx, hy, hr]
theorem ownsMap_tight {w : World} {P : Program} {k : TypeId} {R : Value → Option (DataW Value × List MemPlace)} {b n : Nat} {D : DataW Value} (h : w.ownsMap P k R b n D) : w.ownsMap P k R b (Maps.size D) D := by
  obtain ⟨es, clock, hb, F, hs, rfl⟩ := h
  refine ⟨es, clock, hb, F, ?_, rfl⟩
  rw [Maps.size_eq, length_sorted, List.length_map]; simp
section
variable {ops : Array Oper} {rest : List Oper} {o : Oper} {a : Act} {Q : Exit → Act → World → Prop} {w : World}
/-- m[n] = v, n not there. -/
theorem w_mput (m x y : Operand) {g k : Nat} {n : Int} {v : Value} {D : DataW Value} (hgd : o.guard = none) (hd : o.dst = none) (ho : o.op = Op.mapUpdate 80 m x y) (hm : a.eval m = .map (some g)) (hx : a.eval x = .int .i64 n) (hy : a.eval y = v) (hn : -9223372036854775808 ≤ n ∧ n ≤ 9223372036854775807)
    (h : w.ownsMap Try.prog 3 tok g k D) (hk : k ≤ 1000)
    (K : ∀ w', w'.ownsMap Try.prog 3 tok g (k + 1) (D.put (.int .i64 n) (.held v)) → Mod (fun k => k = g) w w' → wpList Try.prog ops Q rest a w') : wpList Try.prog ops Q (o :: rest) a w := by
  have hwf : (Lit.int .i64 n).wf = true := by simp [Lit.wf, IntKind.min, IntKind.max, IntKind.signed, IntKind.bits]; omega
  refine wpList_mapUpdate_own w hgd m x y _ ho 3 95 (Maps.int_keyed Try.underlying3) Try.underlying80 tok g k D hm h (by unfold maxLen; omega) _ v _ hx hy (Maps.keyOf_int_mk Try.underlying3 hwf) (.held v) [] rfl ?_
  intro w' h1 h2
  rw [hd]
  exact K w' h1 ⟨h2.os, h2.tape, h2.output, h2.size, fun k hk hn => h2.block k hk fun e => hn (Option.some.inj e)⟩
end
theorem height_mono {K K' : List BlkD} (h : TrS.Uq K) (h' : TrS.Uq K') (hs : TrS.Stood K) (hk : ∀ x ∈ K, x ∈ K') {c : BlkD} (hc : c ∈ K) : TrS.height K' c.name = TrS.height K c.name := by
  have h0 := (h.right c hc).name0
  unfold TrS.height
  rw [if_neg h0, if_neg h0, h.get hc, h'.get (hk c hc), h.path_mono h' hs hk c hc]
theorem height_new {K : List BlkD} {b : BlkD} (h : TrS.Uq K) (hs : TrS.Stood K) (h' : TrS.Uq (K ++ [b])) (hs' : TrS.Stood (K ++ [b])) (hr : TrS.ready K b = true) : TrS.height (K ++ [b]) b.name = TrS.height K b.parent + 1 := by
  have e := h'.height hs' (b := b) (by simp)
  have e2 : TrS.height (K ++ [b]) b.parent = TrS.height K b.parent := by
    rcases TrS.ready_iff.1 hr with h0 | ⟨c, hc, hn⟩
    · rw [h0, TrS.height_zero, TrS.height_zero]
    · rw [← hn]; exact height_mono h h' hs (fun x hx => List.mem_append_left _ hx) hc
  omega
theorem BlkD.Right.i64 {b : BlkD} (h : b.Right) : I64 b.name := by
  have hn := h.parts.2.2.2
  rw [h.nm]
  have h1 := h.s
  have h2 := h.m
  have h3 := h.v
  unfold I64 BlkD.nm
  omega
theorem height_lt {K : List BlkD} (n : Int) : -1 ≤ TrS.height K n ∧ TrS.height K n ≤ 4096 := by
  unfold TrS.height
  split
  · omega
  · split
    · omega
    · have := path_len K n; omega

set_option maxRecDepth 100000 in
set_option maxHeartbeats 3200000 in
theorem learn_any {X : Nat → Prop} {w : World} {p g : Nat} {v u : Value} {K V : List BlkD} {b : BlkD} (h0 : TrC X w p g v K V) (hX0 : ∀ k, X k → k < w.heap.size) (ht0 : TxX X w u b) (hfit0 : Fit8 (K ++ [b]) V) (hrd : TrS.ready K b = true) :
    Calls Try.prog 55 #[.pointer (some ⟨p, 0, none⟩), .int .i64 b.name, .agg #[.int .i64 b.slot, .int .i64 b.miner, .int .i64 b.var, .int .i64 b.parent, u]] w fun e w' => e = .returned (.tuple #[]) ∧ TrC X w' p g v (K ++ [b]) V ∧ Mod (fun k => k = g) w w' := by
  refine calls_keep ?_
  have f1 := h0.obj
  have hW := hide_ (h0.toW hX0)
  have hpar := hide_ (show I64 b.parent from ht0.2.1.par)
  have hnm := hide_ (show -9223372036854775808 ≤ b.name ∧ b.name ≤ 9223372036854775807 from (hfit0.right b (by simp)).i64)
  obtain ⟨n, D, us, hn, hown, hus, hF, htx⟩ := h0.map
  have hsz : Maps.size D = K.length := by rw [hF.size]; simp [hus]
  have hown1 := ownsMap_tight hown
  rw [hsz] at hown1
  obtain ⟨h, hh⟩ : ∃ h, TrS.height K b.parent = h := ⟨_, rfl⟩
  have hb1 : -1 ≤ h ∧ h ≤ 4096 := by rw [← hh]; exact height_lt _
  have hh' := hide_ hh
  have hk := hide_ (show K.length ≤ 1000 from by have := h0.fit.room; omega)
  have hgp := hide_ h0.sep.1
  have hXg := hide_ (fun k hk (e : k = g) => h0.sep.2.2.1 (e ▸ hk) : ∀ k, X k → ¬ k = g)
  have hvg := hide_ (fun k hk (e : k = g) => (h0.sep.2.2.2 k hk).2.2 e : ∀ k, v.ownBlock = some k → ¬ k = g)
  have hone := hide_ ht0.1.one'
  have hF2 := hide_ (show MapF (D.put (.int .i64 b.name) (.held (kVal b u (h + 1)))) (((K ++ [b]).zip (us ++ [u])).map fun x => (x.1.name, kVal x.1 x.2 (TrS.height (K ++ [b]) x.1.name))) from by
    have e1 : ((K ++ [b]).zip (us ++ [u])).map (fun x => (x.1.name, kVal x.1 x.2 (TrS.height (K ++ [b]) x.1.name))) = (K.zip us).map (fun x => (x.1.name, kVal x.1 x.2 (TrS.height K x.1.name))) ++ [(b.name, kVal b u (h + 1))] := by
      rw [List.zip_append hus.symm, List.map_append]
      congr 1
      · apply List.map_congr_left
        intro x hx
        rw [height_mono h0.fit.uq hfit0.uq h0.fit.stood (fun y hy => List.mem_append_left _ hy) (List.of_mem_zip hx).1]
      · simp only [List.zip_cons_cons, List.zip_nil_right, List.map_cons, List.map_nil]
        rw [height_new h0.fit.uq h0.fit.stood hfit0.uq hfit0.stood hrd, hh]
    rw [e1]
    refine hF.put fun q hq => ?_
    obtain ⟨x, hx, rfl⟩ := List.mem_map.1 hq
    intro e
    have hnd := hfit0.nodup
    rw [List.map_append, List.map_append, List.append_assoc, List.nodup_append] at hnd
    exact hnd.2.2 _ (List.mem_map.2 ⟨x.1, (List.of_mem_zip hx).1, rfl⟩) b.name (by simp) e)
  have htx2 := hide_ (show ∀ x ∈ (K ++ [b]).zip (us ++ [u]), TxX X w x.2 x.1 from by
    rw [List.zip_append hus.symm]
    intro x hx
    rcases List.mem_append.1 hx with hx | hx
    · exact htx x hx
    · simp at hx; subst hx; exact ht0)
  have hus2 := hide_ (show (us ++ [u]).length = (K ++ [b]).length from by simp [hus])
  have hK1 := hide_ (show K.length + 1 ≤ 400 from by have := hfit0.room; simpa using this)
  have hfit := hide_ hfit0
  have hall := hide_ h0
  replace hown := hide_ hown1
  clear h0 hX0 ht0 hfit0 hrd hown1 hF htx hsz hn hus hh
  go_enter Try.func55, Try.ntmps55
  go_wp2_with ((first
    | ((with_reducible refine at_box ?_); refine w_box _ (bRow b u) rfl rfl rfl rfl ?_; intro g5 w1 hg5 hX f5; replace f1 := f1.ext hX)
    | fail) <;> (try simp only [Act.put, List.setIfInBounds_toArray, List.set_cons_zero, List.set_cons_succ]))
  refine wp_region_phx (by kernel_rfl) ?_; intro wd hxd; have Hf := f1.ext hxd; have H5 := f5.ext hxd
  refine Ph.gate 0 12 (by kernel_rfl) ?_
  refine LinL.step (s := (.val (.pointer (some ⟨p, 0, none⟩)))) [(0, none)] rfl (by kernel_rfl) (op_out 0 (.pointer (some ⟨p, 0, none⟩)) rfl (.inl rfl) rfl) ?_
  refine LinL.step (s := (.val (.pointer (some ⟨p, 0, none⟩)))) [(6, some 0)] rfl (by kernel_rfl) (op_runs rfl fun σ w' hx hg => ⟨_, runs_nil (ρ := σ.eval) (w := w') (.tmp 6) rfl hg.1, rfl⟩) ?_
  refine LinL.step (s := (.val (.pointer (some ⟨p, 0, none⟩)))) [(7, some 0)] rfl (by kernel_rfl) (op_runs rfl fun σ w' hx hg => ⟨_, runs_field (ρ := σ.eval) (w := w') Try.stTree (.tmp 7) p 0 rfl hg.1 (by omega), rfl⟩) ?_
  refine LinL.step (s := (.val (.map (some g)))) [(8, some 0)] rfl (by kernel_rfl) (op_runs rfl fun σ w' hx hg => ⟨_, runs_fload (ρ := σ.eval) (w := w') (.tmp 8) rfl hg.1 (agg_of (by kernel_rfl) _) (Hf.ext hx) rfl, rfl⟩) ?_
  refine LinL.step (s := (.val (.int .i64 b.name))) [(1, none)] rfl (by kernel_rfl) (op_out 1 (.int .i64 b.name) rfl (.inl rfl) rfl) ?_
  refine LinL.step (s := (.val (.agg #[.int .i64 b.slot, .int .i64 b.miner, .int .i64 b.var, .int .i64 b.parent, u]))) [(5, none)] rfl (by kernel_rfl) (op_runs rfl fun σ w' hx hg => ⟨_, runs_aload (ρ := σ.eval) (w := w') Try.stBlk (.tmp 5) rfl hg.1 (H5.ext hx) rfl, rfl⟩) ?_
  refine LinL.step (s := (.val (.pointer (some ⟨p, 0, none⟩)))) [(0, none)] rfl (by kernel_rfl) (op_out 0 (.pointer (some ⟨p, 0, none⟩)) rfl (.inl rfl) rfl) ?_
  refine LinL.step (s := (.val (.pointer (some ⟨g5, 3, none⟩)))) [(5, none)] rfl (by kernel_rfl) (op_runs rfl fun σ w' hx hg => ⟨_, runs_field (ρ := σ.eval) (w := w') Try.stBlk (.tmp 5) g5 3 rfl hg.1 (by omega), rfl⟩) ?_
  refine LinL.step (s := (.val (.int .i64 b.parent))) [(13, some 0)] rfl (by kernel_rfl) (op_runs rfl fun σ w' hx hg => ⟨_, runs_fload (ρ := σ.eval) (w := w') (.tmp 13) rfl hg.1 (agg_of (by kernel_rfl) _) (H5.ext hx) rfl, rfl⟩) ?_
  refine LinL.step (s := (.val (.int .i64 h))) [(12, some 2), (14, some 0)] rfl (by kernel_rfl) (op_calls 48 #[(.tmp 12), (.tmp 14)] #[49, 3] (fun σ => #[.pointer (some ⟨p, 0, none⟩), .int .i64 b.parent]) rfl rfl (fun _ _ => rfl) fun σ w' hx hg => ⟨by have h9 : σ.tmps.getD 12 undef = .pointer (some ⟨p, 0, none⟩) := hg.1; have h19 : σ.tmps.getD 14 undef = .int .i64 b.parent := hg.2.1; simp only [List.map_toArray, List.map_cons, List.map_nil, Act.eval, h9, h19], (Height_any (n := b.parent) (hW.out.ext ((hX.trans hxd).trans hx)) hpar.out).mono fun e w'' hq => ⟨_, hq.1, hq.2, by rw [hh'.out]; rfl⟩⟩) ?_
  refine LinL.step (s := (.val (.int .i64 (h + 1)))) [(15, some 0)] rfl (by kernel_rfl) (op_runs rfl fun σ w' hx hg => ⟨_, runs_add (ρ := σ.eval) (w := w') (.tmp 15) (.const (.int .i64 1)) (h + 1) rfl (by omega) rfl hg.1 rfl, rfl⟩) ?_
  refine LinL.step (s := (.val (kVal b u (h + 1)))) [(11, some 5), (16, some 0)] rfl (by kernel_rfl) (op_runs rfl fun σ w' hx hg => ⟨_, runs_kbuild (ρ := σ.eval) (w := w') (.tmp 11) (.tmp 16) rfl hg.1 hg.2.1, rfl⟩) ?_
  intro wN hxN
  simp only [Fin', List.reverse_cons, List.reverse_nil, List.nil_append, List.cons_append, List.drop_zero, List.take_succ_cons, List.take_zero]
  simp only [Act.put, List.setIfInBounds_toArray, List.set_cons_zero, List.set_cons_succ]
  replace hX := hX.trans (hxd.trans hxN)
  refine wpOp_of_list rfl ?_
  refine w_mput _ _ _ rfl rfl rfl rfl rfl rfl hnm.out (ownsMap_ext hown.out hX) hk.out ?_
  intro w4 hown4 hm4
  show Ph Try.prog _ _ 13 _ _
  refine Ph.rest 13 0 (by kernel_rfl) ?_
  intro wN2 hxN2
  simp only [Fin', List.reverse_nil, List.drop_zero, List.drop_succ_cons, List.take_zero]
  replace hm4 := ((hX.mod fun k => k = g).trans hm4 fun _ _ h => h).trans (hxN2.mod fun k => k = g) fun _ _ h => h
  replace hown4 := ownsMap_ext hown4 hxN2
  clear hxd hxN hxN2 Hf H5
  go_wp2
  go_end0
  refine Keep.intro ⟨rfl, ⟨hall.out.obj.mod hm4 hgp.out, ⟨_, _, us ++ [u], hK1.out, hown4, hus2.out, hF2.out, fun x hx => (htx2.out x hx).mod hm4 hXg.out⟩, ?_, hall.out.sep, hfit.out⟩, hm4⟩
  obtain ⟨vs, k1, k2, k3⟩ := hall.out.que
  exact ⟨vs, k1, k2.mod hm4 hvg.out, fun x hx => (k3 x hx).mod hm4 hXg.out⟩
end Go.Proofs.Ytdacclcaopmalaa
