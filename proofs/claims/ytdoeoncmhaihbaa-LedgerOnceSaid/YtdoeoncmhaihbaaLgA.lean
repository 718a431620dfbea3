/- Package ledger: lists of lists of numbers; each number where it comes first (a map of what is there); how many decisions are known; both ledgers. -/
import Derived.Test.YtdoeoncmhaihbaaLgN
import Derived.Test.YtdoeoncmhaihbaaFL
namespace Go.Proofs.Ytdoeoncmhaihbaa
set_option maxRecDepth 100000
open Go.RowKit

/-- A list of numbers, as an element. -/
def IntR (w : World) (row : List Value) (l : List Int) : Prop := (∃ u, row = [u] ∧ Ints w u l) ∧ I64s l
theorem IntR.stays : Stays IntR := fun _ _ _ _ ⟨⟨u, h1, h2⟩, h3⟩ he => ⟨⟨u, h1, h2.ext he⟩, h3⟩
theorem Try.elLS : ElS Try.prog 29 25 1 := ElS.of Try.underlying29 (by kernel_rfl)
theorem El.ofL {P : Program} {t e : TypeId} {z : Value} {bytes : Nat} (hu : P.underlying t = some (.slice e)) (h : (P.info? e).map (fun i => (i.zero, i.size, i.bytes)) = some (some z, 1, bytes)) (h1 : z.cells.size = 1) (hp : 0 < bytes) : El P t e z bytes := by
  cases hi : P.info? e with
  | none => rw [hi] at h; cases h
  | some i =>
    rw [hi] at h
    simp only [Option.map_some, Option.some.injEq, Prod.mk.injEq] at h
    exact ⟨hu, ⟨i, hi, h.1, h.2.1, h.2.2⟩, h1, hp⟩
theorem Try.elLL : El Try.prog 29 25 (.slice none 0 0) 24 := El.ofL Try.underlying29 (by kernel_rfl) rfl (by omega)
/-- A slice of slices reads as a list of lists. -/
theorem recs_of_sl {w : World} {v : Value} {us : List Value} {ls : List (List Int)} (h : Sl w v us) (hl : us.length = ls.length) (hu : ∀ (i : Nat) (u : Value) (l : List Int), us[i]? = some u → ls[i]? = some l → Ints w u l ∧ I64s l) : Recs 1 IntR w v ls := by
  obtain ⟨A, c, rfl, h1, h2, h3⟩ := h
  refine ⟨us.map fun u => [u], ⟨A, c, by rw [List.length_map], by rw [List.length_map]; exact h1, h2, fun k row hk => ?_⟩, by rw [List.length_map]; exact hl, fun k row l hk hd => ?_⟩
  · rw [List.getElem?_map] at hk
    cases hq : us[k]? with
    | none => rw [hq] at hk; cases hk
    | some u =>
      rw [hq] at hk
      have e : [u] = row := by simpa using hk
      subst e
      obtain ⟨ad, e, hc⟩ := h3 k u hq
      refine ⟨rfl, ad, e, fun j x hj => ?_⟩
      match j with
      | 0 =>
        have e2 : u = x := by simpa using hj
        subst e2
        rw [Addr.add_zero', Nat.mul_one]; exact hc
      | j + 1 => simp at hj
  · rw [List.getElem?_map] at hk
    cases hq : us[k]? with
    | none => rw [hq] at hk; cases hk
    | some u =>
      rw [hq] at hk
      have e : [u] = row := by simpa using hk
      subst e
      exact ⟨⟨u, rfl, (hu k u l hq hd).1⟩, (hu k u l hq hd).2⟩
/-- &l[i] of a slice of slices: the cell, with the list that it reads as. -/
theorem w_lsidx {ops : Array Oper} {rest : List Oper} {o : Oper} {a : Act} {Q : Exit → Act → World → Prop} {w W0 : World} {v : Value} {ls : List (List Int)} (x y : Operand) (i : Nat) (hgd : o.guard = none) (ho : o.op = .indexAddr 29 x y) (hv : a.eval x = v) (hy : a.eval y = .int .i64 i)
    (h : Recs 1 IntR W0 v ls) (he : Ext W0 w) {l : List Int} (hd : ls[i]? = some l) (k : ∀ p u, RowAt w p [u] → Ints W0 u l → wpList Try.prog ops Q rest (a.put o.dst (.pointer (some p))) w) : wpList Try.prog ops Q (o :: rest) a w := by
  have hi := (List.getElem?_eq_some_iff.1 hd).1
  have e : ls[i] = l := (List.getElem?_eq_some_iff.1 hd).2
  refine w_ridx0 Try.elLS x y i IntR.stays hgd ho hv hy h he hi ?_
  rintro pa row hrow _ ⟨⟨u, rfl, hu⟩, _⟩
  rw [e] at hu
  exact k pa u (hrow.ext he) hu
theorem recs_i64 {w : World} {v : Value} {ls : List (List Int)} (h : Recs 1 IntR w v ls) : ∀ l ∈ ls, I64s l := by
  obtain ⟨rows, _, hl, hr⟩ := h
  intro l hl2
  obtain ⟨i, hi, e⟩ := List.getElem_of_mem hl2
  exact (hr i _ l (List.getElem?_eq_getElem (by omega)) (by rw [← e]; exact List.getElem?_eq_getElem hi)).2
/-- An owned slice of lists, each of which lies elsewhere. -/
structure LS (lo : Nat) (F : Nat → Prop) (w : World) (v : Value) (ls : List (List Int)) : Prop where
  ex : ∃ us, Row F w 25 v us ∧ us.length = ls.length ∧ ∀ (i : Nat) (u : Value) (l : List Int), us[i]? = some u → ls[i]? = some l → Safe F w u (i64s l) ∧ I64s l
  hF : ∀ k, F k → lo ≤ k ∧ k < w.heap.size
theorem LS.nil (lo : Nat) (w : World) : LS lo (fun _ => False) w (.slice none 0 0) [] := ⟨⟨[], Row.nil _ _, rfl, fun i u l h => by simp at h⟩, fun _ => False.elim⟩
theorem LS.ext {lo : Nat} {F : Nat → Prop} {w w' : World} {v : Value} {ls : List (List Int)} (h : LS lo F w v ls) (he : Ext w w') : LS lo F w' v ls := by
  obtain ⟨⟨us, h1, h2, h3⟩, h4⟩ := h
  exact ⟨⟨us, h1.ext he, h2, fun i u l hu hl => ⟨(h3 i u l hu hl).1.ext he, (h3 i u l hu hl).2⟩⟩, fun k hk => ⟨(h4 k hk).1, Nat.lt_of_lt_of_le (h4 k hk).2 he.size⟩⟩
theorem LS.recs {lo : Nat} {F : Nat → Prop} {w : World} {v : Value} {ls : List (List Int)} (h : LS lo F w v ls) : Recs 1 IntR w v ls := by
  obtain ⟨⟨us, h1, h2, h3⟩, _⟩ := h
  exact recs_of_sl h1.sl h2 fun i u l hu hl => ⟨(h3 i u l hu hl).1.sl, (h3 i u l hu hl).2⟩
theorem LS.app {lo : Nat} {F : Nat → Prop} {w w' : World} {v' u : Value} {us : List Value} {ls : List (List Int)} {l : List Int} (hl : us.length = ls.length) (h3 : ∀ (i : Nat) (u : Value) (l : List Int), us[i]? = some u → ls[i]? = some l → Safe F w u (i64s l) ∧ I64s l) (hF : ∀ k, F k → lo ≤ k ∧ k < w.heap.size) (hlo : lo ≤ w.heap.size)
    (hm : Mod F w w') (hr : Row (grow F w w') w' 25 v' (us ++ [u])) (hu : Safe F w u (i64s l)) (hi : I64s l) : LS lo (grow F w w') w' v' (ls ++ [l]) := by
  refine ⟨⟨us ++ [u], hr, by simp [hl], fun i x y hx hy => ?_⟩, fun k hk => ?_⟩
  · by_cases hi' : i < us.length
    · rw [List.getElem?_append_left hi'] at hx
      rw [List.getElem?_append_left (by omega)] at hy
      exact ⟨(h3 i x y hx hy).1.upd (Upd.grow hm), (h3 i x y hx hy).2⟩
    · rw [List.getElem?_append_right (by omega)] at hx hy
      have e : i = us.length := by
        by_cases q : i - us.length = 0
        · omega
        · rw [List.getElem?_eq_none (by simp; omega)] at hx; cases hx
      subst e
      rw [← hl] at hy
      rw [Nat.sub_self] at hx hy
      have e1 : u = x := by simpa using hx
      have e2 : l = y := by simpa using hy
      subst e1; subst e2
      exact ⟨hu.upd (Upd.grow hm), hi⟩
  · rcases hk with hk | hk
    · exact ⟨(hF k hk).1, Nat.lt_of_lt_of_le (hF k hk).2 hm.size⟩
    · exact ⟨Nat.le_trans hlo hk.1, hk.2⟩
/-- What is there, in a map; in order, in a slice. -/
structure CM (lo : Nat) (w : World) (g : Nat) (u : Value) (o : List Int) : Prop where
  mp : ∃ D, w.ownsMap Try.prog 3 tok g o.length D ∧ MapF D (o.map fun x => (x, Value.agg #[]))
  own : OwnI lo w u o
  sep : ∀ k, u.ownBlock = some k → k ≠ g
  hg : lo ≤ g
section
variable {lo : Nat} {w w' w2 : World} {g : Nat} {u v : Value} {o : List Int} {x : Int}
theorem CM.ext (h : CM lo w g u o) (he : Ext w w') : CM lo w' g u o := by
  obtain ⟨⟨D, h1, h2⟩, h3, h4, h5⟩ := h
  exact ⟨⟨D, ownsMap_ext h1 he, h2⟩, h3.ext he, h4, h5⟩
theorem mapF_mem {D : DataW Value} (h : MapF D (o.map fun x => (x, Value.agg #[]))) (x : Int) : Maps.has D (.int .i64 x) = decide (x ∈ o) := by
  rw [h.has]
  rw [Bool.eq_iff_iff, List.any_eq_true, decide_eq_true_iff]
  constructor
  · rintro ⟨p, hp, e⟩
    obtain ⟨y, hy, rfl⟩ := List.mem_map.1 hp
    have e' : y = x := of_decide_eq_true e
    exact e' ▸ hy
  · intro hx
    exact ⟨(x, .agg #[]), List.mem_map.2 ⟨x, hx, rfl⟩, decide_eq_true rfl⟩
theorem mapF_at {D : DataW Value} (h : MapF D (o.map fun x => (x, Value.agg #[]))) (x : Int) : D.atKey (.int .i64 x) (.held (.agg #[])) = .held (.agg #[]) := by
  by_cases hx : x ∈ o
  · exact h.hit (List.mem_map.2 ⟨x, hx, rfl⟩) _
  · exact h.miss (fun p hp e => hx (by obtain ⟨y, hy, rfl⟩ := List.mem_map.1 hp; exact e ▸ hy)) _
theorem mapF_put {D : DataW Value} (h : MapF D (o.map fun x => (x, Value.agg #[]))) (hx : x ∉ o) : MapF (D.put (.int .i64 x) (.held (.agg #[]))) ((o ++ [x]).map fun x => (x, Value.agg #[])) := by
  rw [List.map_append]
  exact h.put fun p hp e => hx (by obtain ⟨y, hy, rfl⟩ := List.mem_map.1 hp; exact e ▸ hy)
end
theorem zeroU (w : World) : (zeroValue 61).run Try.prog w = .ok (.agg #[]) w := by kernel_rfl
theorem Try.stU : St Try.prog 61 0 [] := St.of (by kernel_rfl) (by kernel_rfl) rfl
section
variable {ops : Array Oper} {rest : List Oper} {o : Oper} {a : Act} {Q : Exit → Act → World → Prop} {w : World}
theorem lit_wf {n : Int} (hn : I64 n) : (Lit.int .i64 n).wf = true := by
  obtain ⟨h1, h2⟩ := hn
  simp [Lit.wf, IntKind.min, IntKind.max, IntKind.signed, IntKind.bits]; omega
/-- _, ok := m[x] -/
theorem w_ulook (x y : Operand) {lo g : Nat} {u : Value} {n : Int} {l : List Int} (hgd : o.guard = none) (ho : o.op = Op.lookup 60 x y true) (hx : a.eval x = .map (some g)) (hy : a.eval y = .int .i64 n) (h : CM lo w g u l) (hn : I64 n)
    (k : wpList Try.prog ops Q rest (a.put o.dst (.tuple #[.agg #[], .bool (decide (n ∈ l))])) w) : wpList Try.prog ops Q (o :: rest) a w := by
  obtain ⟨⟨D, h1, h2⟩, _, _, _⟩ := h
  refine wpList_lookup_own_ok w hgd x y _ ho 3 61 (Maps.int_keyed Try.underlying3) Try.underlying60 tok (zeroU w) (.held (.agg #[])) [] rfl g _ D hx h1 _ _ hy (Maps.keyOf_int_mk Try.underlying3 (lit_wf hn)) ?_
  intro v ps hv
  rw [mapF_at h2] at hv
  obtain ⟨rfl, _⟩ : v = .agg #[] ∧ ps = [] := by simpa [tok] using hv
  rw [mapF_mem h2]
  exact k
/-- m[x] = struct{}{}, x not yet there. -/
theorem w_uput (x y z : Operand) {lo g : Nat} {u : Value} {n : Int} {l : List Int} (hgd : o.guard = none) (ho : o.op = Op.mapUpdate 60 x y z) (hd : o.dst = none) (hx : a.eval x = .map (some g)) (hy : a.eval y = .int .i64 n) (hz : a.eval z = .agg #[]) (h : CM lo w g u l) (hl : l.length ≤ 1000000) (hn : I64 n) (hnl : n ∉ l)
    (k : ∀ w', Mod (fun j => j = g) w w' → OwnI lo w' u l → (∃ D, w'.ownsMap Try.prog 3 tok g (l ++ [n]).length D ∧ MapF D ((l ++ [n]).map fun x => (x, Value.agg #[]))) → wpList Try.prog ops Q rest a w') : wpList Try.prog ops Q (o :: rest) a w := by
  obtain ⟨⟨D, h1, h2⟩, h3, h4, _⟩ := h
  refine wpList_mapUpdate_own w hgd x y z _ ho 3 61 (Maps.int_keyed Try.underlying3) Try.underlying60 tok g _ D hx h1 (by unfold maxLen; omega) _ _ _ hy hz (Maps.keyOf_int_mk Try.underlying3 (lit_wf hn)) (.held (.agg #[])) [] rfl ?_
  intro w' g1 g2
  rw [hd]
  have hm : Mod (fun j => j = g) w w' := ⟨g2.os, g2.tape, g2.output, g2.size, fun j hj hne => g2.block j hj fun e => hne (by injection e)⟩
  exact k w' hm (own_mod h3 hm h4) ⟨_, by rw [List.length_append]; exact g1, mapF_put h2 hnl⟩
end
theorem CM.made {lo : Nat} {w w' : World} {g : Nat} {u v : Value} {o : List Int} (hmp : ∃ D, w.ownsMap Try.prog 3 tok g o.length D ∧ MapF D (o.map fun x => (x, Value.agg #[]))) (hlt : g < w.heap.size) (hg : lo ≤ g) (ho : OwnI lo w' v o) (hgr : w.grownBy w' u.ownBlock) (hs : ∀ k, u.ownBlock = some k → k ≠ g) (hv : v.ownBlock = u.ownBlock ∨ v.ownBlock = some w.heap.size) : CM lo w' g v o := by
  obtain ⟨D, h1, h2⟩ := hmp
  refine ⟨⟨D, ownsMap_mod h1 (Mod.grown hgr) (fun e => hs g e rfl), h2⟩, ho, fun k hk e => ?_, hg⟩
  rcases hv with hv | hv
  · exact hs k (hv ▸ hk) e
  · rw [hv] at hk; injection hk with hk; omega

set_option maxRecDepth 100000 in
set_option maxHeartbeats 3200000 in
theorem Clean_any {w : World} {v : Value} {ls : List (List Int)} (h0 : Recs 1 IntR w v ls) (hb0 : ls.flatten.length ≤ 600000) :
    Calls Try.prog 11 #[v] w fun e w' => ∃ v', e = .returned v' ∧ OwnI w.heap.size w' v' (cl ls.flatten) ∧ Ext w w' := by
  refine calls_keep ?_
  have h := hide_ h0
  have hX := Ext.refl w
  have hb := hide_ hb0
  have hmax := h0.len_le
  unfold maxLen at hmax
  have hI := hide_ (recs_i64 h0)
  clear h0 hb0
  go_enter Try.func11, Try.ntmps11
  go_wp2_with ((first
    | (refine w_mkmap rfl rfl ?_; intro g w3 hg hx m3; have hC : CM w.heap.size w3 g (.slice none 0 0) [] := ⟨⟨_, m3, MapF.nil⟩, OwnI.nil _ _, (by intro k hk; cases hk), Nat.le_trans hX.size hg⟩; replace hX := hX.trans hx; clear m3 hg hx)
    | ((with_reducible refine at_bi ?_); refine w_rlen Try.elLS _ rfl rfl rfl (h.out.ext IntR.stays hX) ?_)
    | fail) <;> (try simp only [Act.put, List.setIfInBounds_toArray, List.set_cons_zero, List.set_cons_succ]))
  go_loopw [3, 14] (fun u3 i wr => ∃ k : Nat, i = .int .i64 k ∧ k ≤ ls.length ∧ CM w.heap.size wr g u3 (cl (ls.take k).flatten) ∧ Ext w wr) (fun _ i _ => ls.length - (RowKit.intOf i).toNat)
  case atStart => exact ⟨0, rfl, Nat.zero_le _, hC, hX⟩
  case round =>
    clear hX hC
    obtain ⟨k, rfl, hk, hC, hX⟩ := hrel
    by_cases hge : ls.length ≤ k
    · obtain rfl : k = ls.length := by omega
      have t2 : decide (ls.length < ls.length) = false := by simp
      rw [List.take_length] at hC
      clear hge
      go_wp2
      go_ret
      exact Keep.intro ⟨_, rfl, hC.own, hX⟩
    have hlt : k < ls.length := by omega
    have t2 : decide (k < ls.length) = true := by simpa using hlt
    obtain ⟨l, hd0⟩ : ∃ l, ls[k]? = some l := ⟨_, List.getElem?_eq_getElem hlt⟩
    have hd := hide_ hd0
    have hlI := hide_ (hI.out l (List.mem_of_getElem? hd0))
    obtain ⟨A, hA0⟩ : ∃ A, cl (ls.take k).flatten = A := ⟨_, rfl⟩
    have hstep := hide_ (show cl (ls.take (k + 1)).flatten = clF A l from by rw [List.take_add_one, hd0, ← hA0]; simp [cl_app])
    have hAl := hide_ (show A.length + l.length ≤ 600000 from by
      have h1 := cl_len (ls.take k).flatten
      have h2 : ls.flatten = (ls.take k).flatten ++ (l ++ (ls.drop (k + 1)).flatten) := by
        conv => lhs; rw [← List.take_append_drop k ls, List.drop_eq_getElem_cons hlt]
        have e : ls[k] = l := (List.getElem?_eq_some_iff.1 hd0).2
        rw [e]; simp
      have h3 := hb.out
      rw [h2, List.length_append, List.length_append] at h3
      rw [hA0] at h1
      omega)
    rw [hA0] at hC
    have hlt' := hide_ hlt
    have hkb : k < 9223372036854775807 := by omega
    clear hge hd0 hA0
    go_wp2_with ((first
      | (refine w_lsidx _ _ k rfl rfl rfl rfl h.out hX hd.out ?_; intro pa ul hrow hul0; replace hrow := hide_ hrow; have hul := hide_ hul0; clear hul0)
      | ((with_reducible refine at_load ?_); refine w_cload _ rfl rfl rfl hrow.out (fun w => by kernel_rfl) ?_; clear hrow)
      | ((with_reducible refine at_bi ?_); refine i_len _ rfl rfl rfl (hul.out.ext hX) ?_)
      | fail) <;> (try simp only [Act.put, List.setIfInBounds_toArray, List.set_cons_zero, List.set_cons_succ]))
    go_loopw [3, 20] (fun u3 i wx => ∃ j : Nat, i = .int .i64 j ∧ j ≤ l.length ∧ CM w.heap.size wx g u3 (clF A (l.take j)) ∧ Ext w wx) (fun _ i _ => l.length - (RowKit.intOf i).toNat)
    case atStart => exact ⟨0, rfl, Nat.zero_le _, hC, hX⟩
    case round =>
      clear hX hC
      obtain ⟨j, rfl, hj, hC, hX⟩ := hrel
      by_cases hge : l.length ≤ j
      · obtain rfl : j = l.length := by omega
        have t3 : decide (l.length < l.length) = false := by simp
        rw [List.take_length] at hC
        clear hge
        go_wp2
        go_roundw
        case rel => exact ⟨k + 1, by go_num, hlt'.out, by rw [hstep.out]; exact hC, hX⟩
        case measure => have := hlt'.out; simp [RowKit.intOf]; omega
      have hjl : j < l.length := by omega
      have t3 : decide (j < l.length) = true := by simpa using hjl
      obtain ⟨x, hx0⟩ : ∃ x, l[j] = x := ⟨_, rfl⟩
      have hxx := hide_ hx0
      have hxI := hide_ (show I64 x from by have := hlI.out x (hx0 ▸ List.getElem_mem hjl); exact ⟨this.1, this.2⟩)
      have e0 : l.take (j + 1) = l.take j ++ [x] := by rw [List.take_add_one, List.getElem?_eq_getElem hjl, hx0]; rfl
      obtain ⟨B, hB0⟩ : ∃ B, clF A (l.take j) = B := ⟨_, rfl⟩
      have hst0 : clF A (l.take (j + 1)) = if x ∈ B then B else B ++ [x] := by rw [e0, clF_snoc, hB0]
      have hBl := hide_ (show B.length ≤ 600000 from by
        have h1 := clF_len (l.take j) A
        have h2 := hAl.out
        rw [hB0, List.length_take] at h1
        omega)
      rw [hB0] at hC
      have hjl' := hide_ hjl
      have hjb : j < 9223372036854775807 := by have := hAl.out; omega
      have hB8 := hide_ (show (B.length + [x].length) * 8 ≤ 140737488355328 from by have := hBl.out; simp; omega)
      by_cases hin : x ∈ B
      · have tin := hide_ (decide_eq_true hin)
        have hst := hide_ (hst0.trans (if_pos hin))
        clear hge hx0 e0 hB0 hst0 hin
        go_wp2_with ((first
          | ((with_reducible refine at_idx ?_); refine i_idx _ _ j rfl rfl rfl (hul.out.ext hX) rfl hjl'.out ?_; intro ad had; rw [hxx.out] at had)
          | (refine w_ulook _ _ rfl rfl rfl rfl hC hxI.out ?_; rw [tin.out])
          | ((with_reducible refine at_alloc ?_); refine w_alloc Try.stU rfl rfl ?_; intro g9 w2 hg2 hx2 f9)
          | ((with_reducible refine at_store ?_); refine w_astore Try.stU _ _ (us := []) rfl rfl rfl rfl rfl f9 rfl rfl (fun _ h => nomatch h) ?_; intro w4 hm3 f3; replace hx2 := hm3.after hx2 (fun i hi => by subst hi; exact hg2); replace hC := hC.ext hx2; replace hX := hX.trans hx2; clear hm3 f3 hx2 hg2 f9)
          | fail) <;> (try simp only [Act.put, List.setIfInBounds_toArray, List.set_cons_zero, List.set_cons_succ]))
        go_roundw
        case rel => exact ⟨j + 1, by go_num, hjl'.out, by rw [hst.out]; exact hC, hX⟩
        case measure => have := hjl'.out; simp [RowKit.intOf]; omega
      have tin := hide_ (decide_eq_false hin)
      have hst := hide_ (hst0.trans (if_neg hin))
      have hnin := hide_ hin
      clear hge hx0 e0 hB0 hst0 hin
      go_wp2_with ((first
        | ((with_reducible refine at_idx ?_); refine i_idx _ _ j rfl rfl rfl (hul.out.ext hX) rfl hjl'.out ?_; intro ad had; rw [hxx.out] at had)
        | (refine w_ulook _ _ rfl rfl rfl rfl hC hxI.out ?_; rw [tin.out])
        | ((with_reducible refine at_alloc ?_); refine w_alloc Try.stU rfl rfl ?_; intro g9 w2 hg2 hx2 f9)
        | ((with_reducible refine at_store ?_); refine w_astore Try.stU _ _ (us := []) rfl rfl rfl rfl rfl f9 rfl rfl (fun _ h => nomatch h) ?_; intro w4 hm3 f3; replace hx2 := hm3.after hx2 (fun i hi => by subst hi; exact hg2); replace hC := hC.ext hx2; replace hX := hX.trans hx2; clear hm3 f3 hx2 hg2 f9)
        | ((with_reducible refine at_sbuild ?_); refine w_sbuild Try.stU [] rfl rfl rfl (by intro p hp; simp at hp) ?_)
        | (refine w_uput _ _ _ rfl rfl rfl rfl rfl rfl hC (by have := hBl.out; omega) hxI.out hnin.out ?_; intro w5 hmg hog hmp; have hs := hide_ hC.sep; have hgg := hide_ hC.hg; have hlg := hide_ (show g < w5.heap.size from by obtain ⟨D, h1, _⟩ := hmp; exact h1.lt); replace hX := hmg.after hX (fun j e => e ▸ hgg.out); clear hC hmg)
        | ((with_reducible refine at_lit ?_); refine w_new Try.elI (i64s [x]) rfl rfl rfl (i64s_cells _) rfl (by omega) ?_; intro v3 w6 hx3 o3; replace o3 : OwnI _ w6 v3 [x] := o3; replace o3 := o3.ints; replace hog := hog.ext hx3; have hmp6 := (show ∃ D, w6.ownsMap Try.prog 3 tok g (B ++ [x]).length D ∧ MapF D ((B ++ [x]).map fun x => (x, Value.agg #[])) from by obtain ⟨D, h1, h2⟩ := hmp; exact ⟨D, ownsMap_ext h1 hx3, h2⟩); replace hX := hX.trans hx3; have hlg6 := hide_ (Nat.lt_of_lt_of_le hlg.out hx3.size); clear hx3 hmp)
        | ((with_reducible refine at_bi ?_); refine appi _ _ rfl rfl rfl rfl hog o3 hB8.out hX.size ?_; intro v9 w9 o9 hb9 hg9 hg9'; replace hX := hX.trans' hb9; have hC9 := CM.made hmp6 hlg6.out hgg.out o9 hg9 hs.out hg9'; clear hmp6 hog o3 hb9)
        | fail) <;> (try simp only [Act.put, List.setIfInBounds_toArray, List.set_cons_zero, List.set_cons_succ]))
      go_roundw
      case rel => exact ⟨j + 1, by go_num, hjl'.out, by rw [hst.out]; exact hC9, hX⟩
      case measure => have := hjl'.out; simp [RowKit.intOf]; omega
end Go.Proofs.Ytdoeoncmhaihbaa
