/- Copy and Bytes of the document's messages. -/
import Derived.Test.YtidhhmmjiflpjaaMg7
import Derived.Test.YtidhhmmjiflpjaaTagRef
namespace Go.Proofs.Ytidhhmmjiflpjaa
set_option maxRecDepth 100000
open Go.RowKit

theorem own_zero1 {w : World} {base n : Nat} {e : TypeId} {v : Value} {len : Nat} {cs : List Value} (h : w.ownsRow base e n v len cs) : w.ownsRow 0 e n v len cs := by
  obtain ⟨hl, hn | ⟨g, cap, cur, hv, hg, rest⟩⟩ := h
  · exact ⟨hl, .inl hn⟩
  · exact ⟨hl, .inr ⟨g, cap, cur, hv, Nat.zero_le _, rest⟩⟩
section
variable {P : Program} {ops : Array Oper} {rest : List Oper} {a : Act} {Q : Exit → Act → World → Prop} {w : World} {o : Oper} {t e : TypeId} {n bytes : Nat} {z : Value}
/-- []T{}: an empty slice without capacity. -/
theorem w_nempty1 (E : ElN P t e n bytes z) (hgd : o.guard = none) (ho : o.op = .buildSlice t 0 #[]) (k : ∀ ad w', Ext w w' → wpList P ops Q rest (a.put o.dst (.slice (some ad) 0 0)) w') : wpList P ops Q (o :: rest) a w := by
  refine wpList_plain hgd fun K hK => ?_
  have hr := run_nbuild (P := P) E [] #[] rfl (by simp) 0 rfl (by omega) w
  unfold Oper.wp execOp
  simp only [ho]
  simp only [List.map_toArray, List.map_nil, Sem.run_bind, hr, Result.andThen_ok]
  exact hK _ _ (k _ _ ((Ext.refl w).alloc _))
/-- append onto such a slice: what was there stays as it was. -/
theorem w_nclone1 (E : ElN P t e n bytes z) (x y : Operand) {ad : Addr} {s : Value} {ys : List (List Value)} (hgd : o.guard = none) (ho : o.op = .call { callee := .builtin .append, args := #[x, y], argTypes := #[t, t] }) (hv : a.eval x = .slice (some ad) 0 0) (hy : a.eval y = s)
    (hs : SlS w s n ys) (hb : ys.length * bytes ≤ 140737488355328)
    (k : ∀ v' w', Ext w w' → ((ys = [] ∧ v' = .slice (some ad) 0 0) ∨ RowN (fun k => w.heap.size ≤ k) w' e n v' ys) → wpList P ops Q rest (a.put o.dst v') w') : wpList P ops Q (o :: rest) a w := by
  refine wpList_plain hgd fun K hK => ?_
  obtain ⟨i0, hi, hz, hsz, hby⟩ := E.info
  by_cases h0 : ys = []
  · subst h0
    obtain ⟨A, c, rfl, _⟩ := hs
    have hr : (Builtin.append_ #[t, t] o.type #[.slice (some ad) 0 0, .slice A ([] : List (List Value)).length c]).run P w = .ok (.slice (some ad) 0 0) w := by
      cases A with
      | none => simp [Builtin.append_, run_underlying E.hu, sizeOf, typeInfo, hi, Builtin.lenOf, Builtin.firstCells, storeCells]
      | some b => simp [Builtin.append_, run_underlying E.hu, sizeOf, typeInfo, hi, Builtin.lenOf, Builtin.firstCells, storeCells, loadCells, loadCellsFrom]
    unfold Oper.wp execOp
    simp only [ho, resolve, invoke, builtin, Sem.run_bind, Sem.run_pure, Result.andThen_ok, List.map_toArray, List.map_cons, List.map_nil, hv, hy, hr]
    exact hK _ _ (k _ _ (Ext.refl w) (.inl ⟨rfl, rfl⟩))
  · obtain ⟨b, c, rfl, heach, hcells⟩ := slS_cells hs h0 E.pos
    have hpos := List.length_pos_iff.2 h0
    have hm : 0 + ys.length ≤ maxLen := by
      have := Nat.le_mul_of_pos_right ys.length E.bpos
      unfold maxLen; omega
    obtain ⟨v', w', hr, h2, h3⟩ := run_append_arg_grows (P := P) w t o.type e i0 z n bytes E.hu hi hz hsz hby E.zs E.pos ad 0 0 [] (by simp) (fun j u hj => by simp at hj) b ys.length c ys.flatten (flat_len heach) hcells (by omega) hm (by simpa using hb)
    rw [List.nil_append, Nat.zero_add] at h2
    unfold Oper.wp execOp
    simp only [ho, resolve, invoke, builtin, Sem.run_bind, Sem.run_pure, Result.andThen_ok, List.map_toArray, List.map_cons, List.map_nil, hv, hy, hr]
    exact hK _ _ (k v' w' ⟨h3.os, h3.tape, h3.output, h3.size, fun i hi => h3.block i hi (by simp)⟩ (.inr ⟨own_zero1 h2, heach, fun k hk => (h2.lt k hk).1⟩))
end
/-- A slice of transactions that is empty, or new. -/
def TxF (lo : Nat) (w : World) (v : Value) (l : List TxD) : Prop := (l = [] ∧ ∃ ad, v = .slice (some ad) 0 0) ∨ OwnT lo w v l
theorem TxF.recs {lo : Nat} {w : World} {v : Value} {l : List TxD} (h : TxF lo w v l) : Recs 2 TxR w v l := by
  rcases h with ⟨rfl, ad, rfl⟩ | h
  · exact ⟨[], ⟨some ad, 0, rfl, Nat.le_refl _, by unfold maxLen; omega, fun k row hk => by simp at hk⟩, rfl, fun k row d hk => by simp at hk⟩
  · exact h.recs
theorem TxF.ext {lo : Nat} {w w' : World} {v : Value} {l : List TxD} (h : TxF lo w v l) (he : Ext w w') : TxF lo w' v l := h.imp_right fun h => h.ext he
theorem TxF.mod {lo : Nat} {w w' : World} {v : Value} {l : List TxD} {G : Nat → Prop} (h : TxF lo w v l) (hm : Mod G w w') (hG : (l = [] ∧ ∃ ad, v = .slice (some ad) 0 0) ∨ ∀ k, v.ownBlock = some k → ¬ G k) : TxF lo w' v l := by
  rcases h with h | h
  · exact .inl h
  · rcases hG with hG | hG
    · exact .inl hG
    · exact .inr (h.mod hm hG)
theorem TxF.of {lo : Nat} {w w' : World} {v : Value} {l : List TxD} {ad : Addr} (hlo : lo ≤ w.heap.size) (hr : ∀ t ∈ l, t.Raw) (h : (l.map TxD.row = [] ∧ v = .slice (some ad) 0 0) ∨ RowN (fun k => w.heap.size ≤ k) w' 24 2 v (l.map TxD.row)) : TxF lo w' v l := by
  rcases h with ⟨h1, h2⟩ | h
  · exact .inl ⟨List.map_eq_nil_iff.1 h1, ad, h2⟩
  · exact .inr (OwnT.of h hr fun k hk => Nat.le_trans hlo hk)
theorem TxF.ne {w w' : World} {v : Value} {l : List TxD} {ad : Addr} {g : Nat} (h : (l.map TxD.row = [] ∧ v = .slice (some ad) 0 0) ∨ RowN (fun k => w.heap.size ≤ k) w' 24 2 v (l.map TxD.row)) (hg : g < w.heap.size) : (l = [] ∧ ∃ ad, v = .slice (some ad) 0 0) ∨ ∀ k, v.ownBlock = some k → ¬ k = g := by
  rcases h with ⟨h1, h2⟩ | h
  · exact .inl ⟨List.map_eq_nil_iff.1 h1, ad, h2⟩
  · exact .inr fun k hk e => by have := h.inF k hk; omega
theorem add_off (g off k : Nat) : (⟨g, off, none⟩ : Addr).add k = ⟨g, off + k, none⟩ := by unfold Addr.add; split <;> simp_all
theorem w_bfield {ops : Array Oper} {rest : List Oper} {o : Oper} {a : Act} {Q : Exit → Act → World → Prop} {w : World} (x : Operand) (g off : Nat) (hgd : o.guard = none) (ho : o.op = .fieldAddr 27 x 4) (hx : a.eval x = .pointer (some ⟨g, off, none⟩))
    (k : wpList Try.prog ops Q rest (a.put o.dst (.pointer (some ⟨g, off + 4, none⟩))) w) : wpList Try.prog ops Q (o :: rest) a w := by
  refine w_pfield Try.stBlk x 4 hgd ho hx (by omega) ?_
  rw [add_off]; exact k

set_option maxRecDepth 100000 in
set_option maxHeartbeats 800000 in
theorem refMCopy_any {w : World} {u : Value} {d : MsgD} (hu : Recs 2 TxR w u d.bk.txs) (hf : d.bk.txs.length * 16 ≤ 140737488355328) : Calls Try.prog 21 #[.agg (mRow d u).toArray] w fun e w' => ∃ u', e = .returned (.agg (mRow d u').toArray) ∧ Recs 2 TxR w' u' d.bk.txs ∧ Ext w w' := by
  refine calls_keep ?_
  have hs := hide_ (recs_rows hu).1
  have hraw := hide_ (recs_rows hu).2
  have hbig := hide_ (show (d.bk.txs.map TxD.row).length * 16 ≤ 140737488355328 from by rw [List.length_map]; exact hf)
  clear hu hf
  go_enter Try.func21, Try.ntmps21
  go_wp2_with ((first
    | ((with_reducible refine at_box ?_); refine w_box _ (mRow d u) rfl rfl rfl rfl ?_; intro g1 w1 hg1 hX f1)
    | ((with_reducible refine at_alloc ?_); refine w_agalloc Try.agMsg rfl rfl ?_; intro g2 w2 hg2 hx f2; have hne := hide_ (show ¬ g2 = g1 from (by have := f1.lt; omega)); replace hg2 := Nat.le_trans hX.size hg2; replace f1 := f1.ext hx; replace hX := hX.trans hx; clear hx)
    | ((with_reducible refine at_lit ?_); refine w_nempty1 Try.elTxN rfl rfl ?_; intro ad w3 hx; replace f1 := f1.ext hx; replace f2 := f2.ext hx; replace hX := hX.trans hx; clear hx)
    | ((with_reducible refine at_field ?_); (try refine w_yes _ _ _ rfl rfl rfl ?_); refine w_mfield _ _ _ rfl rfl rfl (by omega) ?_)
    | ((with_reducible refine at_field ?_); refine w_bfield _ _ 8 rfl rfl rfl ?_)
    | ((with_reducible refine at_load ?_); have ce := o3; clear ce; refine w_loadN Try.stMsg _ (mRow d v3) rfl rfl rfl f1 rfl mself_at ?_)
    | ((with_reducible refine at_load ?_); (try refine w_yes _ _ _ rfl rfl rfl ?_); refine w_fload _ rfl rfl rfl f1 rfl (agg_of (by kernel_rfl)) ?_)
    | ((with_reducible refine at_bi ?_); refine w_nclone1 Try.elTxN _ _ rfl rfl rfl rfl (hs.out.ext hX) hbig.out ?_; intro v3 w3 hx hor; have o3 := TxF.of (lo := w.heap.size) (l := d.bk.txs) hX.size hraw.out hor; have n1 := TxF.ne hor f1.lt; have n2 := TxF.ne hor f2.lt; clear hor; replace f1 := f1.ext hx; replace f2 := f2.ext hx; replace hX := hX.trans hx; clear hx)
    | ((with_reducible refine at_store ?_); refine w_fstore (u := v3) _ _ rfl rfl rfl rfl rfl f1 (show 12 < 13 from by decide) (oneCell_cells o3.recs.one') o3.recs.one' (by kernel_rfl) ?_; intro w9 hm f9; replace f1 : Fs w9 g1 (mRow d v3) := f9; replace f2 := f2.mod hm hne.out; replace o3 := o3.mod hm n1; replace hX := hm.after hX (fun i e => e ▸ hg1); clear hm f9)
    | ((with_reducible refine at_store ?_); refine w_agput Try.agMsg (us := mRow d v3) _ _ rfl rfl rfl rfl rfl f2 rfl rfl (m_one o3.recs.one') ?_; intro w9 hm f9; replace f2 := f9; replace o3 := o3.mod hm n2; replace hX := hm.after hX (fun i e => e ▸ hg2); clear hm f9)
    | fail) <;> (try simp only [Act.put, List.setIfInBounds_toArray, List.set_cons_zero, List.set_cons_succ]))
  exact bodyPost_ret (ag_one Try.agMsg rfl rfl f2 rfl) rfl (Keep.intro ⟨v3, rfl, o3.recs, hX⟩)
end Go.Proofs.Ytidhhmmjiflpjaa
