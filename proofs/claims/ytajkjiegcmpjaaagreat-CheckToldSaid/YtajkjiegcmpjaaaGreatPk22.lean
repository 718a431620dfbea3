/- The contracts of the document's Key and Of, of layer 2. · Copy and Bytes of the document's messages. · Who a core can be; names of blocks. · The chapter's example. · Cores as the statements hold them: all that they change is new since a world. · What a law on cores needs besides: a core that is told nothing new; records' fields in a region. -/
import Derived.Test.YtajkjiegcmpjaaaGreatPk06
import Derived.Test.YtajkjiegcmpjaaaGreatMg7
import Derived.Test.YtajkjiegcmpjaaaGreatPk08
import Derived.Test.YtajkjiegcmpjaaaGreatPk18
namespace Go.Proofs.YtajkjiegcmpjaaaGreat
set_option maxRecDepth 100000
open Go.RowKit
end Go.Proofs.YtajkjiegcmpjaaaGreat
namespace Go.Proofs.YtajkjiegcmpjaaaGreat
set_option maxRecDepth 100000
open Go.RowKit
theorem own_zero1 {w : World} {base n : Nat} {e : TypeId} {v : Value} {len : Nat} {cs : List Value} (h : w.ownsRow base e n v len cs) : w.ownsRow 0 e n v len cs := by
  obtain ⟨hl, hn | ⟨g, cap, cur, hv, hg, rest⟩⟩ := h
  · exact ⟨hl, .inl hn⟩
  · exact ⟨hl, .inr ⟨g, cap, cur, hv, Nat.zero_le _, rest⟩⟩
section
variable {P : Program} {ops : Array Oper} {rest : List Oper} {a : Act} {Q : Exit → Act → World → Prop} {w : World} {o : Oper} {t e : TypeId} {n bytes : Nat} {z : Value}
theorem w_nempty1 (E : ElN P t e n bytes z) (hgd : o.guard = none) (ho : o.op = .buildSlice t 0 #[]) (k : ∀ ad w', Ext w w' → wpList P ops Q rest (a.put o.dst (.slice (some ad) 0 0)) w') : wpList P ops Q (o :: rest) a w := by
  refine wpList_plain hgd fun K hK => ?_
  have hr := run_nbuild (P := P) E [] #[] rfl (by simp) 0 rfl (by omega) w
  unfold Oper.wp execOp
  simp only [ho]
  simp only [List.map_toArray, List.map_nil, Sem.run_bind, hr, Result.andThen_ok]
  exact hK _ _ (k _ _ ((Ext.refl w).alloc _))
theorem w_nclone1 (E : ElN P t e n bytes z) (x y : Operand) {ad : Addr} {s : Value} {ys : List (List Value)} (hgd : o.guard = none) (ho : o.op = .call { callee := .builtin .append, args := #[x, y], argTypes := #[t, t] }) (hv : a.eval x = .slice (some ad) 0 0) (hy : a.eval y = s)
    (hs : SlS w s n ys) (hb : ys.length * bytes ≤ 140737488355328)
    (k : ∀ v' w', Ext w w' → ((ys = [] ∧ v' = .slice (some ad) 0 0) ∨ RowN (fun k => w.heap.size ≤ k) w' e n v' ys) → wpList P ops Q rest (a.put o.dst v') w') : wpList P ops Q (o :: rest) a w := by
  refine wpList_plain hgd fun K hK => ?_
  obtain ⟨i0, hi, hz, hsz, hby⟩ := E.info
  by_cases h0 : ys = []
  · subst h0
    obtain ⟨A, c, rfl, _⟩ := hs
    have hr : (Builtin.append_ #[t, t] o.type #[.slice (some ad) 0 0, .slice A ([] : List (List Value)).length c]).run P w = .ok (.slice (some ad) 0 0) w := by
      cases A with
      | none => simp [Builtin.append_, run_underlying E.hu, sizeOf, typeInfo, hi, Builtin.lenOf, Builtin.firstCells, storeCells]
      | some b => simp [Builtin.append_, run_underlying E.hu, sizeOf, typeInfo, hi, Builtin.lenOf, Builtin.firstCells, storeCells, loadCells, loadCellsFrom]
    unfold Oper.wp execOp
    simp only [ho, resolve, invoke, builtin, Sem.run_bind, Sem.run_pure, Result.andThen_ok, List.map_toArray, List.map_cons, List.map_nil, hv, hy, hr]
    exact hK _ _ (k _ _ (Ext.refl w) (.inl ⟨rfl, rfl⟩))
  · obtain ⟨b, c, rfl, heach, hcells⟩ := slS_cells hs h0 E.pos
    have hpos := List.length_pos_iff.2 h0
    have hm : 0 + ys.length ≤ maxLen := by
      have := Nat.le_mul_of_pos_right ys.length E.bpos
      unfold maxLen; omega
    obtain ⟨v', w', hr, h2, h3⟩ := run_append_arg_grows (P := P) w t o.type e i0 z n bytes E.hu hi hz hsz hby E.zs E.pos ad 0 0 [] (by simp) (fun j u hj => by simp at hj) b ys.length c ys.flatten (flat_len heach) hcells (by omega) hm (by simpa using hb)
    rw [List.nil_append, Nat.zero_add] at h2
    unfold Oper.wp execOp
    simp only [ho, resolve, invoke, builtin, Sem.run_bind, Sem.run_pure, Result.andThen_ok, List.map_toArray, List.map_cons, List.map_nil, hv, hy, hr]
    exact hK _ _ (k v' w' ⟨h3.os, h3.tape, h3.output, h3.size, fun i hi => h3.block i hi (by simp)⟩ (.inr ⟨own_zero1 h2, heach, fun k hk => (h2.lt k hk).1⟩))
end
def TxF (lo : Nat) (w : World) (v : Value) (l : List TxD) : Prop := (l = [] ∧ ∃ ad, v = .slice (some ad) 0 0) ∨ OwnT lo w v l
theorem TxF.recs {lo : Nat} {w : World} {v : Value} {l : List TxD} (h : TxF lo w v l) : Recs 2 TxR w v l := by
  rcases h with ⟨rfl, ad, rfl⟩ | h
  · exact ⟨[], ⟨some ad, 0, rfl, Nat.le_refl _, by unfold maxLen; omega, fun k row hk => by simp at hk⟩, rfl, fun k row d hk => by simp at hk⟩
  · exact h.recs
theorem TxF.ext {lo : Nat} {w w' : World} {v : Value} {l : List TxD} (h : TxF lo w v l) (he : Ext w w') : TxF lo w' v l := h.imp_right fun h => h.ext he
theorem TxF.mod {lo : Nat} {w w' : World} {v : Value} {l : List TxD} {G : Nat → Prop} (h : TxF lo w v l) (hm : Mod G w w') (hG : (l = [] ∧ ∃ ad, v = .slice (some ad) 0 0) ∨ ∀ k, v.ownBlock = some k → ¬ G k) : TxF lo w' v l := by
  rcases h with h | h
  · exact .inl h
  · rcases hG with hG | hG
    · exact .inl hG
    · exact .inr (h.mod hm hG)
theorem TxF.of {lo : Nat} {w w' : World} {v : Value} {l : List TxD} {ad : Addr} (hlo : lo ≤ w.heap.size) (hr : ∀ t ∈ l, t.Raw) (h : (l.map TxD.row = [] ∧ v = .slice (some ad) 0 0) ∨ RowN (fun k => w.heap.size ≤ k) w' 37 2 v (l.map TxD.row)) : TxF lo w' v l := by
  rcases h with ⟨h1, h2⟩ | h
  · exact .inl ⟨List.map_eq_nil_iff.1 h1, ad, h2⟩
  · exact .inr (OwnT.of h hr fun k hk => Nat.le_trans hlo hk)
theorem TxF.ne {w w' : World} {v : Value} {l : List TxD} {ad : Addr} {g : Nat} (h : (l.map TxD.row = [] ∧ v = .slice (some ad) 0 0) ∨ RowN (fun k => w.heap.size ≤ k) w' 37 2 v (l.map TxD.row)) (hg : g < w.heap.size) : (l = [] ∧ ∃ ad, v = .slice (some ad) 0 0) ∨ ∀ k, v.ownBlock = some k → ¬ k = g := by
  rcases h with ⟨h1, h2⟩ | h
  · exact .inl ⟨List.map_eq_nil_iff.1 h1, ad, h2⟩
  · exact .inr fun k hk e => by have := h.inF k hk; omega
theorem add_off (g off k : Nat) : (⟨g, off, none⟩ : Addr).add k = ⟨g, off + k, none⟩ := by unfold Addr.add; split <;> simp_all
theorem w_bfield {ops : Array Oper} {rest : List Oper} {o : Oper} {a : Act} {Q : Exit → Act → World → Prop} {w : World} (x : Operand) (g off : Nat) (hgd : o.guard = none) (ho : o.op = .fieldAddr 40 x 4) (hx : a.eval x = .pointer (some ⟨g, off, none⟩))
    (k : wpList Tryz.prog ops Q rest (a.put o.dst (.pointer (some ⟨g, off + 4, none⟩))) w) : wpList Tryz.prog ops Q (o :: rest) a w := by
  refine w_pfield Tryz.stBlk x 4 hgd ho hx (by omega) ?_
  rw [add_off]; exact k
set_option maxHeartbeats 800000 in
theorem refMCopy_any {w : World} {u : Value} {d : MsgD} (hu : Recs 2 TxR w u d.bk.txs) (hf : d.bk.txs.length * 16 ≤ 140737488355328) : Calls Tryz.prog 12 #[.agg (mRow d u).toArray] w fun e w' => ∃ u', e = .returned (.agg (mRow d u').toArray) ∧ Recs 2 TxR w' u' d.bk.txs ∧ Ext w w' := by
  refine z30z ?_
  have hs := hide_ (recs_rows hu).1
  have hraw := hide_ (recs_rows hu).2
  have hbig := hide_ (show (d.bk.txs.map TxD.row).length * 16 ≤ 140737488355328 from by rw [List.length_map]; exact hf)
  clear hu hf
  go_enter Tryz.func12, Tryz.ntmps12
  go_wp2_with ((first | (refine z23z ?_; intro g1 w1 hg1 hX f1) | ((with_reducible refine at_alloc ?_); refine w_agalloc Tryz.agMsg rfl rfl ?_; intro g2 w2 hg2 hx f2; have hne := hide_ (show ¬ g2 = g1 from (by have := f1.lt; omega)); replace hg2 := Nat.le_trans hX.size hg2; replace f1 := f1.ext hx; replace hX := hX.trans hx; clear hx) | ((with_reducible refine at_lit ?_); refine w_nempty1 Tryz.elTxN rfl rfl ?_; intro ad w3 hx; replace f1 := f1.ext hx; replace f2 := f2.ext hx; replace hX := hX.trans hx; clear hx) | refine zvz ?_ | ((with_reducible refine at_field ?_); refine w_bfield _ _ 8 rfl rfl rfl ?_) | ((with_reducible refine at_load ?_); have ce := o3; clear ce; refine w_loadN Tryz.stMsg _ (mRow d v3) rfl rfl rfl f1 rfl mself_at ?_) | ((with_reducible refine at_load ?_); (try refine w_yes _ _ _ rfl rfl rfl ?_); refine w_fload _ rfl rfl rfl f1 rfl (agg_of (by kernel_rfl)) ?_) | ((with_reducible refine at_bi ?_); refine w_nclone1 Tryz.elTxN _ _ rfl rfl rfl rfl (hs.out.ext hX) hbig.out ?_; intro v3 w3 hx hor; have o3 := TxF.of (lo := w.heap.size) (l := d.bk.txs) hX.size hraw.out hor; have n1 := TxF.ne hor f1.lt; have n2 := TxF.ne hor f2.lt; clear hor; replace f1 := f1.ext hx; replace f2 := f2.ext hx; replace hX := hX.trans hx; clear hx) | ((with_reducible refine at_store ?_); refine w_fstore (u := v3) _ _ rfl rfl rfl rfl rfl f1 (show 12 < 13 from by decide) (oneCell_cells o3.recs.one') o3.recs.one' (by kernel_rfl) ?_; intro w9 hm f9; replace f1 : Fs w9 g1 (mRow d v3) := f9; replace f2 := f2.mod hm hne.out; replace o3 := o3.mod hm n1; replace hX := hm.after hX (fun i e => e ▸ hg1); clear hm f9) | ((with_reducible refine at_store ?_); refine w_agput Tryz.agMsg (us := mRow d v3) _ _ rfl rfl rfl rfl rfl f2 rfl rfl (m_one o3.recs.one') ?_; intro w9 hm f9; replace f2 := f9; replace o3 := o3.mod hm n2; replace hX := hm.after hX (fun i e => e ▸ hg2); clear hm f9) | fail) <;> (try refine z1z ?_))
  exact bodyPost_ret (ag_one Tryz.agMsg rfl rfl f2 rfl) rfl (Keep.intro ⟨v3, rfl, o3.recs, hX⟩)
end Go.Proofs.YtajkjiegcmpjaaaGreat
namespace Go.Proofs.YtajkjiegcmpjaaaGreat
set_option maxHeartbeats 3200000
set_option maxRecDepth 100000
open Go.RowKit
structure CfD.Ok (g : CfD) : Prop where
  st : StOk g.st
  me : 0 ≤ g.me
  ml : g.me < (g.st.length : Int)
  b1 : 1 ≤ g.base
  b2 : g.base ≤ 100
  m1 : 1 ≤ g.most
  m2 : g.most ≤ 1000
instance (g : CfD) : Decidable g.Ok := if h : (StOk g.st ∧ 0 ≤ g.me ∧ g.me < (g.st.length : Int)) ∧ (1 ≤ g.base ∧ g.base ≤ 100) ∧ 1 ≤ g.most ∧ g.most ≤ 1000 then .isTrue ⟨h.1.1, h.1.2.1, h.1.2.2, h.2.1.1, h.2.1.2, h.2.2.1, h.2.2.2⟩ else .isFalse fun q => h ⟨⟨q.st, q.me, q.ml⟩, ⟨q.b1, q.b2⟩, q.m1, q.m2⟩
theorem right_any {w : World} {u : Value} {g : CfD} (hu0 : Ints w u g.st) :
    Calls Tryz.prog 7 #[.agg (g.row u).toArray] w fun e w' => e = .returned (.bool (decide g.Ok)) ∧ Ext w w' := by
  refine z30z ?_
  have hu := hide_ hu0
  have hX := Ext.refl w
  clear hu0
  by_cases q0 : StOk g.st
  rotate_left
  · obtain ⟨k, hk, hkz⟩ : ∃ k : Int, ((chk g.st : Nat) : Int) = k ∧ (k == 0) = false := ⟨_, rfl, by rw [show chk g.st = 31 from if_neg q0]; rfl⟩
    have hchk := hide_ hk
    obtain ⟨ln, hm0⟩ : ∃ n : Int, (g.st.length : Int) = n := ⟨_, rfl⟩
    have hm := hide_ hm0
    have hdec := hide_ (show decide g.Ok = false from decide_eq_false fun ⟨r0, r1, r2, r3, r4, r5, r6⟩ => q0 r0)
    clear q0 hm0 hk
    go_enter Tryz.func7, Tryz.ntmps7
    go_wp2_with ((first | go_big_skip | (refine z3fz ?_; intro g1 w1 hg1 hx f1; replace hX := hX.trans hx; clear hx) | refine z1dz ?_ | (go_at_call 22; refine (RefCheck_any _ _ _ (hu.out.ext hX)).mono ?_; rintro e w2 ⟨rfl, rfl⟩; rw [hchk.out]) | (refine z1yz ?_; rw [hm.out]) | fail) <;> (try refine z1z ?_))
    go_ret
    exact z1oz
  obtain ⟨k, hk, hkz⟩ : ∃ k : Int, ((chk g.st : Nat) : Int) = k ∧ (k == 0) = true := ⟨_, rfl, by rw [show chk g.st = 0 from if_pos q0]; rfl⟩
  have hchk := hide_ hk
  by_cases q1 : 0 ≤ g.me
  rotate_left
  · have t1 : decide (0 ≤ g.me) = false := decide_eq_false q1
    obtain ⟨ln, hm0⟩ : ∃ n : Int, (g.st.length : Int) = n := ⟨_, rfl⟩
    have hm := hide_ hm0
    have hdec := hide_ (show decide g.Ok = false from decide_eq_false fun ⟨r0, r1, r2, r3, r4, r5, r6⟩ => q1 r1)
    clear q0 q1 hm0 hk
    go_enter Tryz.func7, Tryz.ntmps7
    go_wp2_with ((first | go_big_skip | (refine z3fz ?_; intro g1 w1 hg1 hx f1; replace hX := hX.trans hx; clear hx) | refine z1dz ?_ | (go_at_call 22; refine (RefCheck_any _ _ _ (hu.out.ext hX)).mono ?_; rintro e w2 ⟨rfl, rfl⟩; rw [hchk.out]) | (refine z1yz ?_; rw [hm.out]) | fail) <;> (try refine z1z ?_))
    go_ret
    exact z1oz
  have t1 : decide (0 ≤ g.me) = true := decide_eq_true q1
  by_cases q2 : g.me < (g.st.length : Int)
  rotate_left
  · obtain ⟨ln, hm0⟩ : ∃ n : Int, (g.st.length : Int) = n := ⟨_, rfl⟩
    have hm := hide_ hm0
    have t2 : decide (g.me < ln) = false := decide_eq_false (by omega)
    have hdec := hide_ (show decide g.Ok = false from decide_eq_false fun ⟨r0, r1, r2, r3, r4, r5, r6⟩ => q2 r2)
    clear q0 q1 q2 hm0 hk
    go_enter Tryz.func7, Tryz.ntmps7
    go_wp2_with ((first | go_big_skip | (refine z3fz ?_; intro g1 w1 hg1 hx f1; replace hX := hX.trans hx; clear hx) | refine z1dz ?_ | (go_at_call 22; refine (RefCheck_any _ _ _ (hu.out.ext hX)).mono ?_; rintro e w2 ⟨rfl, rfl⟩; rw [hchk.out]) | (refine z1yz ?_; rw [hm.out]) | fail) <;> (try refine z1z ?_))
    go_ret
    exact z1oz
  obtain ⟨ln, hm0⟩ : ∃ n : Int, (g.st.length : Int) = n := ⟨_, rfl⟩
  have hm := hide_ hm0
  have t2 : decide (g.me < ln) = true := decide_eq_true (by omega)
  by_cases q3 : 1 ≤ g.base
  rotate_left
  · have t3 : decide (1 ≤ g.base) = false := decide_eq_false q3
    have hdec := hide_ (show decide g.Ok = false from decide_eq_false fun ⟨r0, r1, r2, r3, r4, r5, r6⟩ => q3 r3)
    clear q0 q1 q2 q3 hm0 hk
    go_enter Tryz.func7, Tryz.ntmps7
    go_wp2_with ((first | go_big_skip | (refine z3fz ?_; intro g1 w1 hg1 hx f1; replace hX := hX.trans hx; clear hx) | refine z1dz ?_ | (go_at_call 22; refine (RefCheck_any _ _ _ (hu.out.ext hX)).mono ?_; rintro e w2 ⟨rfl, rfl⟩; rw [hchk.out]) | (refine z1yz ?_; rw [hm.out]) | fail) <;> (try refine z1z ?_))
    go_ret
    exact z1oz
  have t3 : decide (1 ≤ g.base) = true := decide_eq_true q3
  by_cases q4 : g.base ≤ 100
  rotate_left
  · have t4 : decide (g.base ≤ 100) = false := decide_eq_false q4
    have hdec := hide_ (show decide g.Ok = false from decide_eq_false fun ⟨r0, r1, r2, r3, r4, r5, r6⟩ => q4 r4)
    clear q0 q1 q2 q3 q4 hm0 hk
    go_enter Tryz.func7, Tryz.ntmps7
    go_wp2_with ((first | go_big_skip | (refine z3fz ?_; intro g1 w1 hg1 hx f1; replace hX := hX.trans hx; clear hx) | refine z1dz ?_ | (go_at_call 22; refine (RefCheck_any _ _ _ (hu.out.ext hX)).mono ?_; rintro e w2 ⟨rfl, rfl⟩; rw [hchk.out]) | (refine z1yz ?_; rw [hm.out]) | fail) <;> (try refine z1z ?_))
    go_ret
    exact z1oz
  have t4 : decide (g.base ≤ 100) = true := decide_eq_true q4
  by_cases q5 : 1 ≤ g.most
  rotate_left
  · have t5 : decide (1 ≤ g.most) = false := decide_eq_false q5
    have hdec := hide_ (show decide g.Ok = false from decide_eq_false fun ⟨r0, r1, r2, r3, r4, r5, r6⟩ => q5 r5)
    clear q0 q1 q2 q3 q4 q5 hm0 hk
    go_enter Tryz.func7, Tryz.ntmps7
    go_wp2_with ((first | go_big_skip | (refine z3fz ?_; intro g1 w1 hg1 hx f1; replace hX := hX.trans hx; clear hx) | refine z1dz ?_ | (go_at_call 22; refine (RefCheck_any _ _ _ (hu.out.ext hX)).mono ?_; rintro e w2 ⟨rfl, rfl⟩; rw [hchk.out]) | (refine z1yz ?_; rw [hm.out]) | fail) <;> (try refine z1z ?_))
    go_ret
    exact z1oz
  have t5 : decide (1 ≤ g.most) = true := decide_eq_true q5
  by_cases q6 : g.most ≤ 1000
  rotate_left
  · have t6 : decide (g.most ≤ 1000) = false := decide_eq_false q6
    have hdec := hide_ (show decide g.Ok = false from decide_eq_false fun ⟨r0, r1, r2, r3, r4, r5, r6⟩ => q6 r6)
    clear q0 q1 q2 q3 q4 q5 q6 hm0 hk
    go_enter Tryz.func7, Tryz.ntmps7
    go_wp2_with ((first | go_big_skip | (refine z3fz ?_; intro g1 w1 hg1 hx f1; replace hX := hX.trans hx; clear hx) | refine z1dz ?_ | (go_at_call 22; refine (RefCheck_any _ _ _ (hu.out.ext hX)).mono ?_; rintro e w2 ⟨rfl, rfl⟩; rw [hchk.out]) | (refine z1yz ?_; rw [hm.out]) | fail) <;> (try refine z1z ?_))
    go_ret
    exact z1oz
  have t6 : decide (g.most ≤ 1000) = true := decide_eq_true q6
  have hdec := hide_ (show decide g.Ok = true from decide_eq_true ⟨q0, q1, q2, q3, q4, q5, q6⟩)
  clear q0 q1 q2 q3 q4 q5 q6 hm0 hk
  go_enter Tryz.func7, Tryz.ntmps7
  go_wp2_with ((first | go_big_skip | (refine z3fz ?_; intro g1 w1 hg1 hx f1; replace hX := hX.trans hx; clear hx) | refine z1dz ?_ | (go_at_call 22; refine (RefCheck_any _ _ _ (hu.out.ext hX)).mono ?_; rintro e w2 ⟨rfl, rfl⟩; rw [hchk.out]) | (refine z1yz ?_; rw [hm.out]) | fail) <;> (try refine z1z ?_))
  go_ret
  exact z1oz
def AskM (x : Int) : MsgD := ⟨2, 0, 0, 0, x, 0, TxD.zero, BlkD.zero⟩
theorem ask_nv {x : Int} (h : (AskM x).Right) : NV x := by
  obtain ⟨_, _, _, _, _, _, h7, _⟩ := h
  rw [if_pos (show 2 ≤ (AskM x).kd from (by decide : (2 : Int) ≤ 2))] at h7
  rcases h7 with q | q | q
  · have := q.2; unfold AskM at this; simp only at this; omega
  · exact .inl q
  · exact .inr q
theorem blocks_any {w : World} {v : Value} {l : List Int} (hv0 : Ints w v l) (hi0 : I64s l) (hl0 : l.length * 8 ≤ 140737488351232) :
    Calls Tryz.prog 20 #[v] w fun e w' => ∃ r, e = .returned (.bool r) ∧ Ext w w' ∧ (r = true → ∀ x ∈ l, NV x) := by
  refine z30z ?_
  have hv := hide_ hv0
  have hi := hide_ hi0
  have hX := Ext.refl w
  have hlm : l.length ≤ 9223372036854775 := by omega
  clear hv0 hi0 hl0
  go_enter Tryz.func20, Tryz.ntmps20
  go_wp2_with ((first | ((with_reducible refine at_bi ?_); refine i_len _ rfl rfl rfl hv.out ?_) | fail) <;> (try refine z1z ?_))
  go_loopw [7] (fun i wr => ∃ k : Nat, i = .int .i64 k ∧ k ≤ l.length ∧ Hid (∀ y ∈ l.take k, NV y) ∧ Ext w wr) (fun i _ => l.length - (RowKit.intOf i).toNat)
  case atStart => exact ⟨0, rfl, Nat.zero_le _, hide_ (by simp), hX⟩
  case round =>
    clear hX
    obtain ⟨k, rfl, hk, hnt, hX⟩ := hrel
    by_cases hge : l.length ≤ k
    · obtain rfl : k = l.length := by omega
      have t2 : decide (l.length < l.length) = false := by simp
      rw [List.take_length] at hnt
      clear hge
      go_wp2
      go_ret
      exact Keep.intro ⟨true, rfl, hX, fun _ => hnt.out⟩
    have hlt : k < l.length := by omega
    have t2 : decide (k < l.length) = true := by simpa using hlt
    have hkl := hide_ hlt
    obtain ⟨y, hy0⟩ : ∃ y, l[k]? = some y := ⟨_, List.getElem?_eq_getElem hlt⟩
    have hyg := hide_ (show l[k]'(hkl.out) = y from (List.getElem?_eq_some_iff.1 hy0).2)
    have hy64 := hide_ (show I64 (AskM y).vl from hi.out y (List.mem_of_getElem? hy0))
    have e0 : l.take (k + 1) = l.take k ++ [y] := by rw [List.take_add_one, hy0]; rfl
    cases hr0 : decide (AskM y).Right
    · have hr := hide_ hr0
      clear hge hlt hy0 e0 hr0
      go_wp2_with ((first | ((with_reducible refine at_idx ?_); refine i_idx _ _ k rfl rfl rfl (hv.out.ext hX) rfl hkl.out ?_; intro ad had; rw [hyg.out] at had) | (refine z4hz ?_; refine w_mbuild [.int .i64 2, .int .i64 0, .int .i64 0, .int .i64 0, .int .i64 y, .int .i64 0, .int .i64 0, .int .i64 0, .int .i64 0, .int .i64 0, .int .i64 0, .int .i64 0, .slice none 0 0] rfl rfl rfl (by intro p hp; simp at hp; rcases hp with rfl | rfl <;> exact ⟨by decide, rfl⟩) ?_) | (go_at_call 11; refine (refMRight_any (d := AskM y) (u := .slice none 0 0) (OwnT.nil 0 _).recs hy64.out (show I64 0 from ⟨by decide, by decide⟩)).mono ?_; rintro e w4 ⟨rfl, hx⟩; rw [hr.out]; replace hX := hX.trans hx; clear hx) | fail) <;> (try refine z1z ?_))
      go_ret
      exact Keep.intro ⟨false, rfl, hX, fun h => (by cases h)⟩
    · have hr := hide_ hr0
      have hnt2 := hide_ (show ∀ z ∈ l.take (k + 1), NV z from by
        rw [e0]
        intro z hz
        rcases List.mem_append.1 hz with hz | hz
        · exact hnt.out z hz
        · rw [List.mem_singleton] at hz; subst hz; exact ask_nv (of_decide_eq_true hr0))
      clear hge hlt hy0 e0 hr0
      go_wp2_with ((first | ((with_reducible refine at_idx ?_); refine i_idx _ _ k rfl rfl rfl (hv.out.ext hX) rfl hkl.out ?_; intro ad had; rw [hyg.out] at had) | (refine z4hz ?_; refine w_mbuild [.int .i64 2, .int .i64 0, .int .i64 0, .int .i64 0, .int .i64 y, .int .i64 0, .int .i64 0, .int .i64 0, .int .i64 0, .int .i64 0, .int .i64 0, .int .i64 0, .slice none 0 0] rfl rfl rfl (by intro p hp; simp at hp; rcases hp with rfl | rfl <;> exact ⟨by decide, rfl⟩) ?_) | (go_at_call 11; refine (refMRight_any (d := AskM y) (u := .slice none 0 0) (OwnT.nil 0 _).recs hy64.out (show I64 0 from ⟨by decide, by decide⟩)).mono ?_; rintro e w4 ⟨rfl, hx⟩; rw [hr.out]; replace hX := hX.trans hx; clear hx) | fail) <;> (try refine z1z ?_))
      go_roundw
      case rel => exact ⟨k + 1, by go_num, hkl.out, hnt2, hX⟩
      case measure => have := hkl.out; simp [RowKit.intOf]; omega
end Go.Proofs.YtajkjiegcmpjaaaGreat
namespace Go.Proofs.YtajkjiegcmpjaaaGreat
set_option maxHeartbeats 3200000
set_option maxRecDepth 100000
open Go.RowKit
section
variable {P : Program} {ops : Array Oper} {rest : List Oper} {o : Oper} {a : Act} {Q : Exit → Act → World → Prop} {w : World} {t : TypeId}
theorem runs_pfieldB {ρ : Operand → Value} {i off : Nat} (hB : fieldB P t i off = true) (x : Operand) {p : Addr} (ho : o.op = .fieldAddr t x i) (hx : ρ x = .pointer (some p)) : Runs P o ρ w (.pointer (some (p.add off))) := by
  unfold fieldB at hB
  cases hu : P.underlying t with
  | none => rw [hu] at hB; cases hB
  | some u =>
    rw [hu] at hB
    cases u <;> try cases hB
    rename_i fs
    simp only at hB
    cases hfi : fs[i]? with
    | none => rw [hfi] at hB; cases hB
    | some f =>
      rw [hfi] at hB
      simp only [Bool.and_eq_true, beq_iff_eq] at hB
      obtain ⟨h1, h2⟩ := hB
      cases hq : P.info? f.type with
      | none => rw [hq] at h2; cases h2
      | some j =>
        have h3 : j.size ≠ 0 := by rw [hq] at h2; simpa using h2
        unfold Runs execOp
        simp [ho, hx, Instr.fieldAt, Instr.sureAddr, run_underlying hu, hfi, fieldPlace, sizeOf, typeInfo, hq, h1, h3]
theorem w_pfieldB {i off : Nat} (hB : fieldB P t i off = true) (x : Operand) {p : Addr} (hgd : o.guard = none) (ho : o.op = .fieldAddr t x i) (hx : a.eval x = .pointer (some p))
    (k : wpList P ops Q rest (a.put o.dst (.pointer (some (p.add off)))) w) : wpList P ops Q (o :: rest) a w := wpList_runs hgd (runs_pfieldB hB x ho hx) k
theorem w_rowload2 {ty : TypeId} (x : Operand) {p : Addr} {row : List Value} {i j : Nat} {u : Value} (hgd : o.guard = none) (ho : o.op = .load ty x) (hx : a.eval x = .pointer (some ((p.add i).add j))) (h : RowAt w p row) (hi : row[i + j]? = some u) (ha : ∀ w, (isAgg ty).run P w = .ok false w)
    (k : wpList P ops Q rest (a.put o.dst u) w) : wpList P ops Q (o :: rest) a w := by
  rw [add_add'] at hx
  exact w_rowload x hgd ho hx h hi ha k
end
theorem ksn {S : Nat → Nat} {w w' : World} {p : Nat} {c : CoD} {v : Value} {l : List Int} (o : OwnI w.heap.size w' v l) (h : Cor S w p c) : ∀ k, v.ownBlock = some k → k < w'.heap.size ∧ S k = 0 := fun k hk => by
  obtain ⟨h1, h2⟩ := (show w'.ownsRow w.heap.size 3 1 v (i64s l).length (i64s l) from o).lt k hk
  obtain ⟨sv, dv, q, gp, gs, h⟩ := h
  exact ⟨h2, Classical.byContradiction fun e => by have := h.bnd k e; omega⟩
theorem Cor.ext {S : Nat → Nat} {w w' : World} {p : Nat} {c : CoD} (h : Cor S w p c) (he : Ext w w') : Cor S w' p c := by
  obtain ⟨sv, dv, q, gp, gs, h⟩ := h
  exact ⟨sv, dv, q, gp, gs, h.ext he⟩
theorem nv_A : NV 65536 := nv_known.1
theorem spk_new {me : Nat} {t : List Int} {base most : Int} (ht : StOk t) (hm : me < t.length) : Spk NV 0 (CoD.new me t base most) := ⟨Aux.new ht hm NV.zero, Int.le_refl _, fun a ha => (by cases ha)⟩
theorem commOf_no {g : Tab} {t : List Int} (h : ∀ w i, g 5 w i = none) : g.commOf t = none := by
  unfold Tab.commOf
  rw [List.findSome?_eq_none_iff]
  intro j _
  have hm : g.mostOf t 5 j = none := by
    unfold Tab.mostOf
    rw [List.findSome?_eq_none_iff]
    intro i _
    simp only [h]
  unfold Tab.commAt
  rw [hm]
theorem some_no : ∀ L : List Int, L = [] → some3 [1] L = true → False := by
  rintro _ rfl
  decide
theorem al_ahead {g : Tab} (h : ∀ k (w : Nat) i, 0 < w → g k w i = none) : g.aheadOf [1] 0 = 0 := Tab.aheadOf_self fun j _ hj ha => by
  have hf : g.from' (j : Nat) 0 = false := by
    unfold Tab.from'
    refine decide_eq_false ?_
    rintro ⟨k, h1, h2, h3⟩
    rcases h3 with h3 | h3
    · exact h3 (h 4 k 0 (by omega))
    · exact h3 (h 5 k 0 (by omega))
  exact some_no _ (show picks (g.from' (j : Nat)) (0 + 1) = [] from by rw [picks_succ]; simp [hf, picks]) ha
def AlA : AcV := ⟨-1, ⟨3, 0, 0, 0, 65536, -1⟩⟩
def AlB : AcV := ⟨-1, ⟨4, 0, 0, 0, 65536, 0⟩⟩
def AlC : AcV := ⟨-1, ⟨5, 0, 0, 0, 65536, 0⟩⟩
def Al0 : CoD := ⟨0, [1], 2, 8, [], 0, 1, pat 0 2 8, 65536, T0, fun u => if u = 0 then some (65536, -1) else none, fun _ => none, 0, -1, 0, -1, [AlA]⟩
def Al1 : CoD := { Al0 with step := 2, T := vput T0 4 0 0 65536, out := [AlA, AlB] }
def Al2 : CoD := { Al1 with step := 3, T := vput Al1.T 5 0 0 65536, lv := 65536, lw := 0, vv := 65536, vw := 0, out := [AlA, AlB, AlC] }
def Alive : CoD := (CoD.new 0 [1] 2 8).tick [65536] 65536
theorem al_tock : CoD.tock { CoD.new 0 [1] 2 8 with tip := 65536 } = Al0 := by kernel_rfl
theorem al_s0 : Al0.step1 [65536] = some Al1 := by
  unfold CoD.step1
  rw [if_neg (by decide), show Al0.agreed = none from by
    unfold CoD.agreed
    rw [show Al0.T.commOf Al0.t = none from commOf_no fun _ _ => rfl]
    kernel_rfl]
  show (if Al0.step = 0 then none else _) = _
  rw [if_neg (by decide), if_neg (show ¬ Al0.view < Al0.T.aheadOf Al0.t Al0.view from by
    rw [show Al0.T.aheadOf Al0.t Al0.view = 0 from al_ahead fun _ _ _ _ => rfl]; decide), if_pos (by decide)]
  kernel_rfl
theorem al_s1 : Al1.step1 [65536] = some Al2 := by
  unfold CoD.step1
  rw [if_neg (by decide), show Al1.agreed = none from by
    unfold CoD.agreed
    rw [show Al1.T.commOf Al1.t = none from commOf_no fun w i => by show vput T0 4 0 0 65536 5 w i = none; unfold vput; rw [if_neg fun q => by have := q.1; omega]; rfl]
    kernel_rfl]
  show (if Al1.step = 0 then none else _) = _
  rw [if_neg (by decide), if_neg (show ¬ Al1.view < Al1.T.aheadOf Al1.t Al1.view from by
    rw [show Al1.T.aheadOf Al1.t Al1.view = 0 from al_ahead fun k w i hw => by show vput T0 4 0 0 65536 k w i = none; unfold vput; rw [if_neg fun q => by have := q.2.1; omega]; rfl]; decide), if_neg (by decide)]
  kernel_rfl
theorem al_s2 : Al2.step1 [65536] = some (Al2.conclude 65536) := by
  unfold CoD.step1
  rw [if_neg (by decide), show Al2.agreed = some 65536 from by
    unfold CoD.agreed
    rw [show Al2.T.commOf Al2.t = some 65536 from Tab.commOf_first (j := 0) (by omega) (by kernel_rfl) fun i hi => by omega]
    rfl]
theorem al_s3 : (Al2.conclude 65536).step1 [65536] = none := by
  unfold CoD.step1
  rw [if_neg (by decide), show (Al2.conclude 65536).agreed = none from by
    unfold CoD.agreed
    rw [show (Al2.conclude 65536).T.commOf (Al2.conclude 65536).t = none from commOf_no fun _ _ => rfl]
    kernel_rfl]
  show (if (Al2.conclude 65536).step = 0 then none else _) = _
  rw [if_pos (by decide)]
theorem alive_eq : Alive = Al2.conclude 65536 := by
  have s0 : Spk NV 0 Al0 := by
    have := spk_tock (spk_tip (spk_new (me := 0) (t := [1]) (base := 2) (most := 8) (by decide) (by decide)) nv_A) (by decide)
    rwa [al_tock] at this
  have s1 := spk_step1 s0 NV.zero al_s0
  have s2 := spk_step1 s1 NV.zero al_s1
  have e : Alive = (CoD.settle (CoD.tock { CoD.new 0 [1] 2 8 with tip := 65536 }) [65536]).resend := by
    unfold Alive CoD.tick
    rw [if_neg (by decide)]
  rw [e, al_tock, settle_some s0 NV.zero al_s0, settle_some s1 NV.zero al_s1, settle_some s2 NV.zero al_s2, settle_none al_s3]
  unfold CoD.resend
  rw [if_pos (by decide)]
theorem alive_out : Alive.out = [⟨-1, ⟨3, 0, 0, 0, 65536, -1⟩⟩, ⟨-1, ⟨4, 0, 0, 0, 65536, 0⟩⟩, ⟨-1, ⟨5, 0, 0, 0, 65536, 0⟩⟩, ⟨-1, ⟨6, 0, 0, 0, 65536, 0⟩⟩] := by rw [alive_eq]; kernel_rfl
theorem alive_dec : Alive.dec = [65536] := by rw [alive_eq]; kernel_rfl
theorem alive_step : Alive.step = 0 := by rw [alive_eq]; kernel_rfl
theorem new_alive {w : World} {v : Value} (h : Ints w v [1]) : Calls Tryz.prog 9 #[.int .i64 0, v, .int .i64 2, .int .i64 8] w fun e w' => ∃ p S', e = .returned (.pointer (some ⟨p, 0, none⟩)) ∧ Cor S' w' p (CoD.new 0 [1] 2 8) ∧ (∀ k, S' k ≤ 6) ∧ (∀ k, S' k ≠ 0 → w.heap.size ≤ k) ∧ Ext w w' :=
  New_any (me := 0) h (by decide) (by decide)
theorem tick_alive {S : Nat → Nat} {w : World} {p : Nat} {kv : Value} (hC : Cor S w p (CoD.new 0 [1] 2 8)) (h6 : ∀ k, S k ≤ 6) (hk : Ints w kv [65536]) (hks : ∀ k, kv.ownBlock = some k → k < w.heap.size ∧ S k = 0) :
    Calls Tryz.prog 13 #[.pointer (some ⟨p, 0, none⟩), kv, .int .i64 65536] w fun e w' => ∃ S' ov, e = .returned ov ∧ Cor S' w' p Alive ∧ Recs 14 AcR w' ov Alive.out ∧ Stp 1 6 S S' w w' := by
  obtain ⟨sv, dv, q, gp, gs, hC⟩ := hC
  refine (tick_core hC h6 (spk_new (by decide) (by decide)) rfl nv_A hk hks).mono ?_
  rintro e w' ⟨S', ov, rfl, h1, _, h3, _, h5⟩
  exact ⟨S', ov, rfl, h1, h3.acts, h5⟩
theorem alive_any {w : World} : Calls Tryz.prog 6 #[] w fun e w' => e = .returned (.bool true) ∧ Ext w w' := by
  refine z30z ?_
  obtain ⟨c, hc0⟩ : ∃ c, Alive = c := ⟨_, rfl⟩
  have hc := hide_ hc0
  obtain ⟨l, hl0⟩ : ∃ l, c.out = l := ⟨_, rfl⟩
  have hl := hide_ hl0
  have hlen : l.length = 4 := by rw [← hl0, ← hc0, alive_out]; rfl
  have h0 := hide_ (show l[0]? = some ⟨-1, ⟨3, 0, 0, 0, 65536, -1⟩⟩ by rw [← hl0, ← hc0, alive_out]; rfl)
  have h1 := hide_ (show l[1]? = some ⟨-1, ⟨4, 0, 0, 0, 65536, 0⟩⟩ by rw [← hl0, ← hc0, alive_out]; rfl)
  have h2 := hide_ (show l[2]? = some ⟨-1, ⟨5, 0, 0, 0, 65536, 0⟩⟩ by rw [← hl0, ← hc0, alive_out]; rfl)
  have h3 := hide_ (show l[3]? = some ⟨-1, ⟨6, 0, 0, 0, 65536, 0⟩⟩ by rw [← hl0, ← hc0, alive_out]; rfl)
  have hll := hide_ hlen
  have hd := hide_ (show c.dec = [65536] by rw [← hc0, alive_dec])
  have hs := hide_ (show c.step = 0 by rw [← hc0, alive_step])
  clear hc0 hl0 hlen
  go_enter Tryz.func6, Tryz.ntmps6
  go_wp2_with ((first | go_big_skip | ((with_reducible refine at_lit ?_); refine w_new Tryz.elI (i64s [1]) rfl rfl rfl (i64s_cells _) rfl (by omega) ?_; intro v3 w3 hx3 o3; replace o3 : OwnI _ w3 v3 [1] := o3) | ((with_reducible refine at_lit ?_); refine w_new Tryz.elI (i64s [65536]) rfl rfl rfl (i64s_cells _) rfl (by omega) ?_; intro v8 w8 hx8 o8; replace o8 : OwnI _ w8 v8 [65536] := o8; have hb8 := hide_ (Nat.le_refl w8.heap.size)) | (go_at_call 9; refine (new_alive o3.ints).mono ?_; rintro e w4 ⟨p, S4, rfl, hC4, h64, hlo4, hx4⟩; have hX := hide_ (hx3.trans hx4); replace hC4 := hide_ hC4; replace h64 := hide_ h64; have hlo := hide_ (fun k hk => Nat.le_trans hx3.size (hlo4 k hk)); clear hlo4 hx3 hx4 o3) | (go_at_call 13; refine (tick_alive (hC4.out.ext hx8) h64.out o8.ints (ksn o8 hC4.out)).mono ?_; rintro e w5 ⟨S5, ov, rfl, hC5, hr0, hs5⟩; have hX5 := hide_ (hs5.mod.after (hX.out.trans hx8) fun k hk => hlo.out k (by have := hk.1; omega)); rw [hc.out] at hC5 hr0; rw [hl.out] at hr0; have hr := hide_ hr0; obtain ⟨sv, dv, q, gp, gs, hC⟩ := hC5; replace hC := hide_ hC; have hx9 := Ext.refl w5; clear hC4 h64 hlo hX o8 hx8 hs5 hr0) | (go_at_call 16; refine (Decisions_core (hC.out.ext hx9) (by rw [hd.out]; decide)).mono ?_; rintro e w6 ⟨u6, rfl, o6, hx⟩; rw [hd.out] at o6; replace hx9 := hx9.trans hx; clear hx) | ((with_reducible refine at_lit ?_); (try refine w_yes _ _ _ rfl rfl rfl ?_); refine w_new Tryz.elI (i64s [65536]) rfl rfl rfl (i64s_cells _) rfl (by omega) ?_; intro v7 w7 hx7 o7; replace o7 : OwnI _ w7 v7 [65536] := o7; replace o6 := o6.ext hx7; replace hx9 := hx9.trans hx7; clear hx7) | (go_at_call 19; refine (SameInts_any _ _ [65536] _ o6.ints o7.ints).mono ?_; rintro e wA ⟨rfl, hx⟩; replace hx9 := hx9.trans hx; clear hx) | (go_at_call 21; refine (Index_core (hC.out.ext hx9)).mono ?_; rintro e wB ⟨rfl, hx⟩; rw [hd.out]; replace hx9 := hx9.trans hx; clear hx) | (go_at_call 18; refine (Step_core (hC.out.ext hx9)).mono ?_; rintro e wC ⟨rfl, hx⟩; rw [hs.out]; replace hx9 := hx9.trans hx; clear hx) | ((with_reducible refine at_bi ?_); (try refine w_yes _ _ _ rfl rfl rfl ?_); refine w_rlen Tryz.elAct _ rfl rfl rfl hr.out ?_; rw [hll.out]) | ((with_reducible refine at_idx ?_); (try refine w_yes _ _ _ rfl rfl rfl ?_); refine w_acidx Tryz.elAct _ _ 0 rfl rfl rfl rfl hr.out hx9 h0.out ?_; intro pa0 hrow0; replace hrow0 := hide_ hrow0) | ((with_reducible refine at_idx ?_); (try refine w_yes _ _ _ rfl rfl rfl ?_); refine w_acidx Tryz.elAct _ _ 1 rfl rfl rfl rfl hr.out hx9 h1.out ?_; intro pa1 hrow1; replace hrow1 := hide_ hrow1) | ((with_reducible refine at_idx ?_); (try refine w_yes _ _ _ rfl rfl rfl ?_); refine w_acidx Tryz.elAct _ _ 2 rfl rfl rfl rfl hr.out hx9 h2.out ?_; intro pa2 hrow2; replace hrow2 := hide_ hrow2) | ((with_reducible refine at_idx ?_); (try refine w_yes _ _ _ rfl rfl rfl ?_); refine w_acidx Tryz.elAct _ _ 3 rfl rfl rfl rfl hr.out hx9 h3.out ?_; intro pa3 hrow3; replace hrow3 := hide_ hrow3) | ((with_reducible refine at_field ?_); (try refine w_yes _ _ _ rfl rfl rfl ?_); refine w_pfieldB (t := 53) (i := 1) (off := 1) (by kernel_rfl) _ rfl rfl rfl ?_) | ((with_reducible refine at_field ?_); (try refine w_yes _ _ _ rfl rfl rfl ?_); refine w_pfieldB (t := 42) (i := 0) (off := 0) (by kernel_rfl) _ rfl rfl rfl ?_) | ((with_reducible refine at_load ?_); (try refine w_yes _ _ _ rfl rfl rfl ?_); refine w_rowload2 (i := 1) (j := 0) (u := .int .i64 3) _ rfl rfl rfl hrow0.out rfl (agg_of (by kernel_rfl)) ?_) | ((with_reducible refine at_load ?_); (try refine w_yes _ _ _ rfl rfl rfl ?_); refine w_rowload2 (i := 1) (j := 0) (u := .int .i64 4) _ rfl rfl rfl hrow1.out rfl (agg_of (by kernel_rfl)) ?_) | ((with_reducible refine at_load ?_); (try refine w_yes _ _ _ rfl rfl rfl ?_); refine w_rowload2 (i := 1) (j := 0) (u := .int .i64 5) _ rfl rfl rfl hrow2.out rfl (agg_of (by kernel_rfl)) ?_) | ((with_reducible refine at_load ?_); (try refine w_yes _ _ _ rfl rfl rfl ?_); refine w_rowload2 (i := 1) (j := 0) (u := .int .i64 6) _ rfl rfl rfl hrow3.out rfl (agg_of (by kernel_rfl)) ?_) | fail) <;> (try refine z1z ?_))
  go_ret
  exact Keep.intro ⟨rfl, hX5.out.trans hx9⟩
end Go.Proofs.YtajkjiegcmpjaaaGreat
namespace Go.Proofs.YtajkjiegcmpjaaaGreat
set_option maxRecDepth 100000
open Go.RowKit
def Held (w0 w : World) (p : Nat) (c : CoD) : Prop := Ext w0 w ∧ ∃ S, Cor S w p c ∧ (∀ k, S k ≤ 6) ∧ ∀ k, S k ≠ 0 → w0.heap.size ≤ k
section
variable {w0 wb w w' : World} {p : Nat} {c d : CoD} {kn : List Int} {kv : Value}
theorem Held.x (h : Held w0 w p c) : Ext w0 w := h.1
theorem Held.ext (h : Held w0 w p c) (he : Ext w w') : Held w0 w' p c := by
  obtain ⟨h1, S, h2, h3, h4⟩ := h
  exact ⟨h1.trans he, S, h2.ext he, h3, h4⟩
theorem spk_flush {i0 : Int} (h : Spk NV i0 c) : Spk NV c.flush.idx c.flush := by
  obtain ⟨h1, _, _⟩ := h
  exact ⟨⟨h1.st, h1.lt, h1.tab, h1.rs, h1.rv, h1.dl, h1.di, h1.pr, h1.sd, h1.vv, h1.tp, h1.dc, h1.vw, h1.v0⟩, Int.le_refl _, fun a ha => by cases ha⟩
theorem held_step {S S' : Nat → Nat} (hx : Ext w0 w) (hlo : ∀ k, S k ≠ 0 → w0.heap.size ≤ k) (hs : Stp 1 6 S S' w w') (h6 : ∀ k, S' k ≤ 6) (hc : Cor S' w' p d) : Held w0 w' p d.flush := by
  refine ⟨hs.mod.after hx fun k hk => hlo k (by have := hk.1; omega), S', hc.flush, h6, fun k hk => ?_⟩
  by_cases hl : k < w.heap.size
  · rw [hs.same k hl] at hk; exact hlo k hk
  · exact Nat.le_trans hx.size (Nat.le_of_not_lt hl)
theorem tick_held {tip : Int} (h : Held w0 wb p c) (hx : Ext wb w) (o : OwnI wb.heap.size w kv kn) (hsp : Spk NV c.idx c) (ho : c.out = []) (ht : NV tip) :
    Calls Tryz.prog 13 #[.pointer (some ⟨p, 0, none⟩), kv, .int .i64 tip] w fun e w' => ∃ ov, e = .returned ov ∧ Held w0 w' p (c.tick kn tip).flush ∧ Recs 14 AcR w' ov (c.tick kn tip).out := by
  obtain ⟨h1, S, h2, h3, h4⟩ := h
  have hks := ksn o h2
  have h2' := h2.ext hx
  obtain ⟨sv, dv, q, gp, gs, hC⟩ := h2'
  refine (tick_core hC h3 hsp ho ht o.ints hks).mono ?_
  rintro e w' ⟨S', ov, rfl, k1, k2, k3, _, k5⟩
  exact ⟨ov, rfl, held_step (h1.trans hx) h4 k5 k2 k1, k3.acts⟩
theorem handle_held {m : MsgD} {u : Value} (h : Held w0 wb p c) (hx : Ext wb w) (o : OwnI wb.heap.size w kv kn) (hsp : Spk NV c.idx c) (ho : c.out = []) (hR : m.Right) :
    Calls Tryz.prog 10 #[.pointer (some ⟨p, 0, none⟩), .agg (mRow m u).toArray, kv] w fun e w' => ∃ ov, e = .returned ov ∧ Held w0 w' p (c.handle m.msv kn).flush ∧ Recs 14 AcR w' ov (c.handle m.msv kn).out := by
  obtain ⟨h1, S, h2, h3, h4⟩ := h
  have hks := ksn o h2
  have h2' := h2.ext hx
  obtain ⟨sv, dv, q, gp, gs, hC⟩ := h2'
  refine (handle_core hC h3 hsp ho (fun h => (hR.heard h).1) hR.1.1 hR.2.1.2 o.ints hks).mono ?_
  rintro e w' ⟨S', ov, rfl, k1, k2, k3, _, k5⟩
  exact ⟨ov, rfl, held_step (h1.trans hx) h4 k5 k2 k1, k3.acts⟩
theorem index_held (h : Held w0 w p c) : Calls Tryz.prog 21 #[.pointer (some ⟨p, 0, none⟩)] w fun e w' => e = .returned (.int .i64 (c.dec.length : Nat)) ∧ Ext w w' := by
  obtain ⟨_, S, ⟨sv, dv, q, gp, gs, hC⟩, _⟩ := h
  exact Index_core hC
theorem view_held (h : Held w0 w p c) {v : Int} (hv : c.view = v) : Calls Tryz.prog 17 #[.pointer (some ⟨p, 0, none⟩)] w fun e w' => e = .returned (.int .i64 v) ∧ Ext w w' := by
  subst hv
  obtain ⟨_, S, ⟨sv, dv, q, gp, gs, hC⟩, _⟩ := h
  exact View_core hC
theorem stp_held (h : Held w0 w p c) {v : Int} (hv : c.step = v) : Calls Tryz.prog 18 #[.pointer (some ⟨p, 0, none⟩)] w fun e w' => e = .returned (.int .i64 v) ∧ Ext w w' := by
  subst hv
  obtain ⟨_, S, ⟨sv, dv, q, gp, gs, hC⟩, _⟩ := h
  exact Step_core hC
theorem dec_held (h : Held w0 w p c) {l : List Int} (hl : c.dec = l) (hb : l.length ≤ 1001) : Calls Tryz.prog 16 #[.pointer (some ⟨p, 0, none⟩)] w fun e w' => ∃ u, e = .returned u ∧ OwnI w.heap.size w' u l ∧ Ext w w' := by
  subst hl
  obtain ⟨_, S, ⟨sv, dv, q, gp, gs, hC⟩, _⟩ := h
  exact Decisions_core hC (by omega)
end
def JN (w : World) (g : CfD) (m : Nat) (x : Value) (w' : World) : Prop :=
  match m with
  | 0 => Ext w w'
  | 1 => Ext w w' ∧ OwnI w.heap.size w' x []
  | 2 => Ext w w' ∧ Ints w' x g.st
  | _ => ∃ p, x = .pointer (some ⟨p, 0, none⟩) ∧ Held w w' p (CoD.new g.me.toNat g.st g.base g.most)
theorem JN.ext {w : World} {g : CfD} {m : Nat} {x : Value} {w' : World} (h : JN w g m x w') {k : Nat} (hm : m ≤ k) (hk : k ≤ 2 := by omega) : Ext w w' := by
  rcases (show m = 0 ∨ m = 1 ∨ m = 2 by omega) with rfl | rfl | rfl
  · exact h
  · exact h.1
  · exact h.1
theorem new_held {w0 w : World} {v : Value} {g : CfD} (hg : g.Ok) (hx : Ext w0 w) (h : Ints w v g.st) :
    Calls Tryz.prog 9 #[.int .i64 g.me, v, .int .i64 g.base, .int .i64 g.most] w fun e w' => ∃ p, e = .returned (.pointer (some ⟨p, 0, none⟩)) ∧ Held w0 w' p (CoD.new g.me.toNat g.st g.base g.most) := by
  have e : (g.me.toNat : Int) = g.me := by have := hg.me; omega
  have key := New_any (me := g.me.toNat) (base := g.base) (most := g.most) h hg.st (by have := hg.me; have := hg.ml; omega)
  rw [e] at key
  refine key.mono ?_
  rintro e w' ⟨p, S', rfl, k1, k2, k3, k4⟩
  exact ⟨p, rfl, hx.trans k4, S', k1, k2, fun k hk => Nat.le_trans hx.size (k3 k hk)⟩
theorem spk0 {g : CfD} (hg : g.Ok) : Spk NV (CoD.new g.me.toNat g.st g.base g.most).idx (CoD.new g.me.toNat g.st g.base g.most) := spk_new hg.st (by have := hg.me; have := hg.ml; omega)
end Go.Proofs.YtajkjiegcmpjaaaGreat
namespace Go.Proofs.YtajkjiegcmpjaaaGreat
set_option maxRecDepth 100000
open Go.RowKit
theorem ae_one {d : AcE} {u : Value} {w : World} (h : Recs 2 TxR w u d.m.bk.txs) : ∀ x ∈ d.row u, x.oneCell' = true := by
  intro x hx
  rcases List.mem_append.1 hx with hx | hx
  · simp only [List.mem_cons, List.not_mem_nil, or_false] at hx
    rcases hx with rfl | rfl <;> rfl
  · exact m_one h.one' x hx
theorem runs_rowload {P : Program} {o : Oper} {w : World} {ρ : Operand → Value} {ty : TypeId} (x : Operand) {p : Addr} {row : List Value} {i : Nat} {u : Value} (ho : o.op = .load ty x) (hx : ρ x = .pointer (some (p.add i))) (h : RowAt w p row) (hi : row[i]? = some u) (ha : ∀ w, (isAgg ty).run P w = .ok false w) : Runs P o ρ w u := by
  have hc := h i u hi
  unfold Runs execOp
  simp [ho, hx, go_sem, ha, hc]
theorem act_addr {w : World} {v : Value} {l : List AcV} (h : Recs 14 AcR w v l) {i : Nat} {a : AcV} (ha : l[i]? = some a) :
    ∃ pa, RowAt w pa (acRow a) ∧ ∀ (o : Oper) (ρ : Operand → Value) (w' : World) (x y : Operand), o.op = .indexAddr 45 x y → ρ x = v → ρ y = .int .i64 i → Runs Tryz.prog o ρ w' (.pointer (some pa)) := by
  obtain ⟨rows, ⟨A, c, rfl, h1, h2, h3⟩, hl, h4⟩ := h
  obtain ⟨i0, hi0, hsz⟩ := Tryz.elAct.info
  have hu := Tryz.elAct.hu
  have hi := (List.getElem?_eq_some_iff.1 ha).1
  have hir : i < rows.length := by omega
  obtain ⟨h5, ad, rfl, h6⟩ := h3 i _ (List.getElem?_eq_getElem hir)
  have e : rows[i] = acRow a := h4 i _ _ (List.getElem?_eq_getElem hir) ha
  rw [e] at h6
  refine ⟨_, h6, fun o ρ w' x y ho hv hy => ?_⟩
  unfold Runs execOp
  simp [ho, hv, hy, Instr.indexAt, run_underlying hu, sizeOf, typeInfo, hi0, hsz, go_sem, hir]
theorem row_tail {w : World} {p : Addr} {u : Value} {cs : List Value} (h : RowAt w p (u :: cs)) : RowAt w (p.add 1) cs := fun j x hj => by
  rw [add_add', Nat.add_comm 1 j]
  exact h (j + 1) x hj
section
variable {w0 wb w w' : World} {p : Nat} {c d : CoD} {kn : List Int} {kv : Value}
theorem handle_held2 {m : MsgD} {u : Value} (h : Held w0 wb p c) (hx : Ext wb w) (o : OwnI wb.heap.size w kv kn) (hsp : Spk NV c.idx c) (ho : c.out = []) (hR : m.Right) :
    Calls Tryz.prog 10 #[.pointer (some ⟨p, 0, none⟩), .agg (mRow m u).toArray, kv] w fun e w' => ∃ ov, e = .returned ov ∧ Held w0 w' p (c.handle m.msv kn).flush ∧ Recs 14 AcR w' ov (c.handle m.msv kn).out ∧ Mod (fun k => k < wb.heap.size) w w' := by
  obtain ⟨h1, S, h2, h3, h4⟩ := h
  have hks := ksn o h2
  obtain ⟨sv0, dv0, q0, gp0, gs0, hC0⟩ := h2
  have hb := hC0.bnd
  have hC := hC0.ext hx
  refine (handle_core hC h3 hsp ho (fun h => (hR.heard h).1) hR.1.1 hR.2.1.2 o.ints hks).mono ?_
  rintro e w' ⟨S', ov, rfl, k1, k2, k3, _, k5⟩
  exact ⟨ov, rfl, held_step (h1.trans hx) h4 k5 k2 k1, k3.acts, k5.mod.mono fun k _ hk => hb k (by have := hk.1; omega)⟩
theorem spk_handleR {m : MsgD} (h : Spk NV c.idx c) (hR : m.Right) : Spk NV c.idx (c.handle m.msv kn) := by
  by_cases h3 : 3 ≤ m.kd
  · exact spk_handle h (hR.heard h3).1 NV.zero hR.1.1 kn
  · have : c.handle m.msv kn = c := by
      unfold CoD.handle
      rw [if_pos (.inl (show m.kd < 3 by omega))]
    rw [this]; exact h
theorem handle_off {m : MsgD} (ho : c.out = []) (h3 : 3 ≤ m.kd) (hne : ¬ m.ix = (c.dec.length : Int)) :
    c.handle m.msv kn = { c with out := if (c.dec.length : Int) < m.ix ∨ (c.t.length : Int) ≤ m.fm ∨ m.kd = 6 then [] else [⟨m.fm, ⟨6, c.me, m.ix, 0, c.dec.getD m.ix.toNat 0, 0⟩⟩] } := by
  have hs : { c with out := [] } = c := by rw [← ho]
  unfold CoD.handle
  by_cases h1 : m.kd < 3 ∨ (c.t.length : Int) ≤ m.fm ∨ (c.dec.length : Int) < m.ix
  · rw [if_pos (show m.msv.kd < 3 ∨ (c.t.length : Int) ≤ m.msv.fm ∨ c.idx < m.msv.ix from h1), if_pos (by rcases h1 with q | q | q; omega; exact .inr (.inl q); exact .inl q)]
    exact hs.symm
  · rw [if_neg (show ¬ (m.msv.kd < 3 ∨ (c.t.length : Int) ≤ m.msv.fm ∨ c.idx < m.msv.ix) from h1), if_pos (show m.msv.ix < c.idx from by
      have hx : ¬ (c.dec.length : Int) < m.ix := fun q => h1 (.inr (.inr q))
      show m.ix < (c.dec.length : Int)
      omega)]
    by_cases h6 : m.kd = 6
    · rw [if_pos (show m.msv.kd = 6 from h6), if_pos (.inr (.inr h6))]
      exact hs.symm
    · rw [if_neg (show ¬ m.msv.kd = 6 from h6), if_neg (by rintro (q | q | q); exact h1 (.inr (.inr q)); exact h1 (.inr (.inl q)); exact h6 q), ho]
      rfl
theorem handle_off' {m : MsgD} {L t : List Int} {n gn gme : Int} (ho : c.out = []) (h3 : 3 ≤ m.kd) (hL : c.dec = L) (hn : (L.length : Int) = n) (ht : c.t = t) (hgn : (t.length : Int) = gn) (hme : ((c.me : Nat) : Int) = gme) (hne : ¬ m.ix = n) :
    c.handle m.msv kn = { c with out := if n < m.ix ∨ gn ≤ m.fm ∨ m.kd = 6 then [] else [⟨m.fm, ⟨6, gme, m.ix, 0, L.getD m.ix.toNat 0, 0⟩⟩] } := by
  subst hL hn ht hgn hme
  exact handle_off ho h3 hne
end
end Go.Proofs.YtajkjiegcmpjaaaGreat
