/- The document's tree of blocks: one more block that is known. -/
import Derived.Test.YtdacclcaopmalaaTDa
namespace Go.Proofs.Ytdacclcaopmalaa
set_option maxRecDepth 100000
open Go.RowKit Go.ChangeShapes Go.WideShapes Go.ChangeAt

/-- v[j:] of a slice of records. -/
theorem w_nfrom {α : Type} {R : World → List Value → α → Prop} {P : Program} {ops : Array Oper} {rest : List Oper} {o : Oper} {a : Act} {Q : Exit → Act → World → Prop} {w W0 : World} {t e : TypeId} {n : Nat} {v : Value} {l : List α} (E : ElS P t e n) (x y : Operand) (j : Nat) (hgd : o.guard = none) (ho : o.op = .slice t x (some y) none none) (hv : a.eval x = v) (hy : a.eval y = .int .i64 (j : Int)) (h : Recs n R W0 v l) (hj : j ≤ l.length)
    (k : ∀ v', Recs n R W0 v' (l.drop j) → wpList P ops Q rest (a.put o.dst v') w) : wpList P ops Q (o :: rest) a w := by
  obtain ⟨rows, ⟨A, c, rfl, h1, h2, h3⟩, hl, h4⟩ := h
  refine wpList_runs hgd (runs_sfrom E x y ho hv hy (by omega) rfl) (k _ ⟨rows.drop j, ⟨_, _, by rw [List.length_drop], by rw [List.length_drop]; omega, by omega, fun i row hi => ?_⟩, by simp; omega, fun i row d hi hd => ?_⟩)
  · rw [List.getElem?_drop] at hi
    obtain ⟨g1, ad, rfl, g2⟩ := h3 _ row hi
    have hjr := (List.getElem?_eq_some_iff.1 hi).1
    rw [if_neg (by omega)]
    refine ⟨g1, _, rfl, ?_⟩
    rw [add_add', show j * n + i * n = (j + i) * n from (Nat.add_mul ..).symm]
    exact g2
  · rw [List.getElem?_drop] at hi hd
    exact h4 _ row d hi hd
theorem two_one {a b : Value} (ha : a.oneCell' = true) (hb : b.oneCell' = true) : ∀ u ∈ [a, b], u.oneCell' = true := by
  intro u hu; simp at hu; rcases hu with rfl | rfl
  · exact ha
  · exact hb
theorem slS_cell {w : World} {v : Value} {n : Nat} {rows : List (List Value)} (h : SlS w v n rows) : v.cells = #[v] ∧ v.oneCell' = true := by
  obtain ⟨A, c, rfl, _⟩ := h; exact ⟨rfl, rfl⟩
/-- The rows of blocks. -/
theorem blk_rows {w : World} {v : Value} {l : List BlkD} (h : Recs 5 BlkR w v l) : ∃ rows : List (List Value), SlS w v 5 rows ∧ rows.length = l.length ∧ (∀ y ∈ rows, ∀ u ∈ y, u.oneCell' = true) ∧ ∀ (k : Nat) (row : List Value) (d : BlkD), rows[k]? = some row → l[k]? = some d → BlkR w row d := by
  obtain ⟨rows, h1, h2, h3⟩ := h
  refine ⟨rows, h1, h2, fun y hy => ?_, h3⟩
  obtain ⟨k, hk, rfl⟩ := List.getElem_of_mem hy
  obtain ⟨⟨u4, e, hu⟩, _⟩ := h3 k _ _ (List.getElem?_eq_getElem hk) (List.getElem?_eq_getElem (show k < l.length by omega))
  rw [e]
  exact blk_one hu.one'
/-- Rows that read as blocks, at W0. -/
structure RowsB (W0 : World) (rows : List (List Value)) (l : List BlkD) : Prop where
  len : rows.length = l.length
  at_ : ∀ (k : Nat) (row : List Value) (d : BlkD), rows[k]? = some row → l[k]? = some d → BlkR W0 row d
theorem RowsB.one {W0 : World} {rows : List (List Value)} {l : List BlkD} (h : RowsB W0 rows l) : ∀ y ∈ rows, ∀ u ∈ y, u.oneCell' = true := by
  intro y hy
  obtain ⟨k, hk, rfl⟩ := List.getElem_of_mem hy
  have hl := h.len
  obtain ⟨⟨u4, e, hu⟩, _⟩ := h.at_ k _ _ (List.getElem?_eq_getElem hk) (List.getElem?_eq_getElem (show k < l.length by omega))
  rw [e]
  exact blk_one hu.one'
theorem RowsB.recs {W0 w : World} {v : Value} {rows : List (List Value)} {l : List BlkD} (h : RowsB W0 rows l) (hs : SlS w v 5 rows) (he : Ext W0 w) : Recs 5 BlkR w v l := ⟨rows, hs, h.len, fun k row d hk hd => BlkR.stays _ _ _ _ (h.at_ k row d hk hd) he⟩
theorem rows_snoc {w w' : World} {rows : List (List Value)} {l : List BlkD} {b : BlkD} {u : Value} (hl : rows.length = l.length) (h : ∀ (k : Nat) (row : List Value) (d : BlkD), rows[k]? = some row → l[k]? = some d → BlkR w row d) (he : Ext w w') (hu : Recs 2 TxR w' u b.txs) (hr : b.Raw) :
    ∀ (k : Nat) (row : List Value) (d : BlkD), (rows ++ [bRow b u])[k]? = some row → (l ++ [b])[k]? = some d → BlkR w' row d := by
  intro k row d hk hd
  by_cases hlt : k < rows.length
  · rw [List.getElem?_append_left hlt] at hk
    rw [List.getElem?_append_left (by omega)] at hd
    exact BlkR.stays _ _ _ _ (h k row d hk hd) he
  · rw [List.getElem?_append_right (by omega)] at hk hd
    obtain rfl : k = rows.length := by
      have := (List.getElem?_eq_some_iff.1 hk).1
      simp at this; omega
    rw [← hl] at hd
    simp at hk hd
    subst hk hd
    exact ⟨⟨u, rfl, hu⟩, hr⟩

set_option maxRecDepth 100000 in
set_option maxHeartbeats 1600000 in
theorem refGrow_no {w : World} {vk vw u : Value} {K : List BlkD} {b : BlkD} (hK0 : Recs 5 BlkR w vk K) (hw1 : vw.oneCell' = true) (hlen : 400 ≤ K.length) :
    Calls Try.prog 59 #[.agg #[vk, vw], .agg (bRow b u).toArray] w fun e w' => e = .returned (.tuple #[.agg #[vk, vw], .bool false]) ∧ Ext w w' := by
  refine calls_keep ?_
  have hK := hide_ hK0
  have hk1 := hK0.one'
  have hone := two_one hk1 hw1
  have hmax := hK0.len_le
  unfold maxLen at hmax
  have t1 : decide ((400 : Int) ≤ (K.length : Int)) = true := decide_eq_true (by omega)
  clear hK0
  go_enter Try.func59, Try.ntmps59
  go_wp2_with ((first
    | ((with_reducible refine at_box ?_); refine w_box _ [vk, vw] rfl rfl rfl rfl ?_; intro g1 w1 hg1 hX f1)
    | ((with_reducible refine at_box ?_); refine w_box _ (bRow b u) rfl rfl rfl rfl ?_; intro g3 w2 hg3 hx2 f3; replace f1 := f1.ext hx2; replace hX := hX.trans hx2; clear hx2)
    | ((with_reducible refine at_alloc ?_); refine w_alloc Try.stDoc rfl rfl ?_; intro g4 w2 hg4 hx2 f4; replace f1 := f1.ext hx2; replace hg4 := Nat.le_trans hX.size hg4; replace hX := hX.trans hx2; clear hx2)
    | ((with_reducible refine at_field ?_); (try refine w_yes _ _ _ rfl rfl rfl ?_); refine w_field Try.stDoc _ _ _ rfl rfl rfl (by omega) ?_)
    | ((with_reducible refine at_load ?_); refine w_aload Try.stDoc _ rfl rfl rfl f1 rfl ?_)
    | ((with_reducible refine at_load ?_); refine w_fload _ rfl rfl rfl f1 rfl (agg_of (by kernel_rfl)) ?_)
    | ((with_reducible refine at_bi ?_); refine w_rlen Try.enBlk.elS _ rfl rfl rfl (hK.out.ext BlkR.stays hX) ?_)
    | ((with_reducible refine at_store ?_); refine w_astore Try.stDoc _ _ (us := [vk, vw]) rfl rfl rfl rfl rfl f4 rfl rfl hone ?_; intro w3 hm3 f3; replace f4 : Fs w3 g4 [vk, vw] := f3; replace hX := hm3.after hX (fun i hi => by subst hi; exact hg4); clear hm3 f3)
    | fail) <;> (try simp only [Act.put, List.setIfInBounds_toArray, List.set_cons_zero, List.set_cons_succ]))
  exact bodyPost_ret (ret_two Try.stDoc rfl rfl rfl f4 rfl) rfl (Keep.intro ⟨rfl, hX⟩)

set_option maxRecDepth 100000 in
set_option maxHeartbeats 1600000 in
theorem refGrow_yes {W0 w : World} {vk vw u : Value} {K : List BlkD} {b : BlkD} {rows : List (List Value)} (he : Ext W0 w) (hs : SlS w vk 5 rows) (hB : RowsB W0 rows K) (hw1 : vw.oneCell' = true) (hlen : K.length < 400) (hu0 : Recs 2 TxR W0 u b.txs) (hraw0 : b.Raw) :
    Calls Try.prog 59 #[.agg #[vk, vw], .agg (bRow b u).toArray] w fun e w' => ∃ vk' rows', e = .returned (.tuple #[.agg #[vk', vw], .bool true]) ∧ SlS w' vk' 5 rows' ∧ RowsB W0 rows' (K ++ [b]) ∧ (∀ k, vk'.ownBlock = some k → w.heap.size ≤ k) ∧ Ext w w' := by
  refine calls_keep ?_
  have hK := hide_ (hB.recs hs he)
  have hrl := hB.len
  have hrone := hB.one
  have hrr := hB.at_
  have honeb := hide_ (blk_one (a := b.slot) (b := b.miner) (c := b.var) (d := b.parent) hu0.one')
  have hu := hide_ hu0
  have hraw := hide_ hraw0
  replace hrr := hide_ hrr
  replace hs := hide_ hs
  replace hrone := hide_ hrone
  have t1 : decide ((400 : Int) ≤ (K.length : Int)) = false := decide_eq_false (by omega)
  have hb1 := hide_ (show (([] : List (List Value)).length + rows.length) * 56 ≤ 140737488355328 by simp; omega)
  have hb2 := hide_ (show (rows.length + [bRow b u].length) * 56 ≤ 140737488355328 by simp; omega)
  clear hu0 hraw0 hB
  go_enter Try.func59, Try.ntmps59
  have tokA : True := trivial
  go_wp2_with ((first
    | ((with_reducible refine at_box ?_); refine w_box _ [vk, vw] rfl rfl rfl rfl ?_; intro g1 w1 hg1 hX f1)
    | ((with_reducible refine at_box ?_); refine w_box _ (bRow b u) rfl rfl rfl rfl ?_; intro g3 w2 hg3 hx2 f3; replace f1 := f1.ext hx2; replace hX := hX.trans hx2; clear hx2)
    | ((with_reducible refine at_alloc ?_); refine w_alloc Try.stDoc rfl rfl ?_; intro g4 w2 hg4 hx2 f4; have hg41 := hide_ (show ¬ g4 = g1 from fun e => by have := f1.lt; omega); replace f1 := f1.ext hx2; replace f3 := f3.ext hx2; replace hg4 := Nat.le_trans hX.size hg4; replace hX := hX.trans hx2; clear hx2)
    | ((with_reducible refine at_field ?_); (try refine w_yes _ _ _ rfl rfl rfl ?_); refine w_field Try.stDoc _ _ _ rfl rfl rfl (by omega) ?_)
    | ((with_reducible refine at_load ?_); refine w_aload Try.stDoc _ rfl rfl rfl f1 rfl ?_)
    | ((with_reducible refine at_load ?_); refine w_fload _ rfl rfl rfl f1 rfl (agg_of (by kernel_rfl)) ?_)
    | ((with_reducible refine at_bi ?_); refine w_rlen Try.enBlk.elS _ rfl rfl rfl (hK.out.ext BlkR.stays hX) ?_)
    | ((with_reducible refine at_lit ?_); have _t := tokA; refine w_nnew Try.enBlk [] rfl rfl rfl (by simp) rfl (by omega) ?_; intro v12 w5 B hB1 hB2 hx3 r12; have hg1' := Nat.not_le.2 (Nat.lt_of_lt_of_le f1.lt hB1); have hg3' := Nat.not_le.2 (Nat.lt_of_lt_of_le f3.lt hB1); have hg4' := Nat.not_le.2 (Nat.lt_of_lt_of_le f4.lt hB1); have hBw := Nat.le_trans hX.size hB1; replace f1 := f1.ext hx3; replace f3 := f3.ext hx3; replace f4 := f4.ext hx3; replace hX := hX.trans hx3; clear tokA hx3 hB1)
    | ((with_reducible refine at_bi ?_); refine w_napp0 Try.enBlk _ _ rfl rfl rfl rfl r12 (hs.out.ext hX) hrone.out hb1.out ?_; intro v15 w7 hm7 r15; replace hm7 := hm7.mono (G := fun k => B ≤ k) (fun k _ h => And.left h); replace f1 := f1.mod hm7 hg1'; replace f3 := f3.mod hm7 hg3'; replace f4 := f4.mod hm7 hg4'; replace hX := hm7.after hX (fun i hi => Nat.le_trans hBw hi); have hB2' := hB2; replace r15 : RowN (fun k => B ≤ k) w7 _ 5 v15 rows := r15.mono (fun k hk => Or.elim hk (fun h => And.left h) (fun h => Nat.le_trans hB2 (And.left h))); replace hB2 := Nat.le_trans hB2 hm7.size; clear hm7 r12)
    | ((with_reducible refine at_load ?_); refine w_aload Try.stBlk _ rfl rfl rfl f3 rfl ?_)
    | ((with_reducible refine at_lit ?_); refine w_nnew Try.enBlk [bRow b u] rfl rfl rfl (by simp [bRow]) rfl (by simp) ?_; intro v18 w5 B2 hC1 hC2 hx3 r18; replace f1 := f1.ext hx3; replace f3 := f3.ext hx3; replace f4 := f4.ext hx3; replace r15 := r15.ext hx3; replace hX := hX.trans hx3; replace hB2 := Nat.le_trans hB2 hx3.size; clear hx3 hC1 hC2)
    | ((with_reducible refine at_bi ?_); refine w_napp Try.enBlk _ _ rfl rfl rfl rfl r15 r18.slS (by simp) (fun y hy => by rw [List.mem_singleton.1 hy]; exact honeb.out) hb2.out ?_; intro v19 w9 hm9 r19; replace f1 := f1.mod hm9 hg1'; replace f4 := f4.mod hm9 hg4'; replace hX := hm9.after hX (fun i hi => Nat.le_trans hBw hi); replace r19 : RowN (fun k => B ≤ k) w9 _ 5 v19 (rows ++ [bRow b u]) := r19.mono (fun k hk => Or.elim hk (fun h => h) (fun h => Nat.le_trans hB2 (And.left h))); have hc19 := slS_cell r19.slS; have hone19 := two_one hc19.2 hw1; clear hm9 r15 r18 f3)
    | ((with_reducible refine at_store ?_); refine w_fstore _ _ rfl rfl rfl rfl rfl f1 (by simp) hc19.1 hc19.2 (by kernel_rfl) ?_; intro w10 hm10 f10; replace f1 : Fs w10 g1 [v19, vw] := f10; replace r19 := r19.mod hm10 (fun k hk e => hg1' (e ▸ hk)); replace f4 := f4.mod hm10 hg41.out; replace hX := hm10.after hX (fun i hi => by subst hi; exact hg1); clear hm10 f10)
    | ((with_reducible refine at_store ?_); refine w_astore Try.stDoc _ _ (us := [v19, vw]) rfl rfl rfl rfl rfl f4 rfl rfl hone19 ?_; intro w3 hm3 f3; replace f4 : Fs w3 g4 [v19, vw] := f3; replace r19 := r19.mod hm3 (fun k hk e => hg4' (e ▸ hk)); replace hX := hm3.after hX (fun i hi => by subst hi; exact hg4); clear hm3 f3)
    | fail) <;> (try simp only [Act.put, List.setIfInBounds_toArray, List.set_cons_zero, List.set_cons_succ]))
  exact bodyPost_ret (ret_two Try.stDoc rfl rfl rfl f4 rfl) rfl (Keep.intro ⟨v19, rows ++ [bRow b u], rfl, r19.slS, ⟨by simp [hrl], rows_snoc hrl hrr.out (Ext.refl _) hu.out hraw.out⟩, fun k hk => Nat.le_trans hBw (r19.inF k hk), hX⟩)
end Go.Proofs.Ytdacclcaopmalaa
