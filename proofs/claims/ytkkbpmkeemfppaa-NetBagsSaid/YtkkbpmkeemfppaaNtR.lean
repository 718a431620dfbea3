/- The document's bag, sides and spread: its answers. -/
import Derived.Test.YtkkbpmkeemfppaaNtF
import Derived.Test.YtkkbpmkeemfppaaNtC
namespace Go.Proofs.Ytkkbpmkeemfppaa
open Go.RowKit

theorem w_itoS {ops : Array Oper} {rest : List Oper} {o : Oper} {a : Act} {Q : Exit → Act → World → Prop} {w : World} {v : Value} {l : List Int} (x y' : Operand) (j : Nat) (hgd : o.guard = none) (ho : o.op = .slice 33 x none (some y') none) (hv : a.eval x = v) (h : Ints w v l) (hy' : a.eval y' = .int .i64 (j : Int)) (hj : j ≤ l.length)
    (k : ∀ v', Ints w v' (l.take j) → wpList Try.prog ops Q rest (a.put o.dst v') w) : wpList Try.prog ops Q (o :: rest) a w := by
  refine w_to Try.elI x y' j hgd ho hv h hy' (by rw [i64s_length]; exact hj) fun v' h' => k v' ?_
  unfold Ints i64s at *
  rwa [List.map_take]
theorem w_ifromS {ops : Array Oper} {rest : List Oper} {o : Oper} {a : Act} {Q : Exit → Act → World → Prop} {w : World} {v : Value} {l : List Int} (x y' : Operand) (j : Nat) (hgd : o.guard = none) (ho : o.op = .slice 33 x (some y') none none) (hv : a.eval x = v) (h : Ints w v l) {z : Int} (hy' : a.eval y' = .int .i64 z) (hz : z = (j : Nat)) (hj : j ≤ l.length)
    (k : ∀ v', Ints w v' (l.drop j) → wpList Try.prog ops Q rest (a.put o.dst v') w) : wpList Try.prog ops Q (o :: rest) a w := by
  subst hz
  refine w_from Try.elI x y' j hgd ho hv h hy' (by rw [i64s_length]; exact hj) fun v' h' => k v' ?_
  unfold Ints i64s at *
  rwa [List.map_drop]
/-- What the call made lies outside of what was there. -/
theorem OwnI.safe {F : Nat → Prop} {w : World} {base : Nat} {v : Value} {l : List Int} (h : OwnI base w v l) (hF : ∀ k, F k → k < base) : Safe F w v (i64s l) :=
  ⟨h.ints, fun k hk hf => by have := (own_block_lt h hk).1; have := hF k hf; omega, fun k hk => (own_block_lt h hk).2⟩
set_option maxRecDepth 100000 in
set_option maxHeartbeats 3200000 in
theorem refAt_any {w : World} {v : Value} {l : List Int} {i x : Int} (h0 : Ints w v l) {q : Bool} (hq0 : atB l i = q) (hv0 : atV l i = x) :
    Calls Try.prog 20 #[v, .int .i64 i] w fun e w' => e = .returned (.tuple #[.int .i64 x, .bool q]) ∧ Ext w w' := by
  refine calls_keep ?_
  have hX := Ext.refl w
  have hsf := hide_ h0
  clear h0
  by_cases hi : i < 0
  · have t1 : decide (i < 0) = true := decide_eq_true hi
    obtain rfl : q = false := by rw [← hq0]; exact decide_eq_false (by omega)
    obtain rfl : x = 0 := by rw [← hv0]; unfold atV; rw [hq0]; rfl
    clear hi hq0 hv0
    go_enter Try.func20, Try.ntmps20
    go_wp2_with (first
      | go_big_skip
      | fail)
    go_ret2
    exact Keep.intro ⟨rfl, hX⟩
  have t1 : decide (i < 0) = false := decide_eq_false hi
  obtain ⟨j, rfl⟩ : ∃ j : Nat, i = j := ⟨i.toNat, by omega⟩
  by_cases hj : l.length ≤ j
  · have t2 : decide ((l.length : Int) ≤ (j : Int)) = true := decide_eq_true (by omega)
    have t3 : decide (l.length ≤ j) = true := decide_eq_true hj
    obtain rfl : q = false := by rw [← hq0]; exact decide_eq_false (by omega)
    obtain rfl : x = 0 := by rw [← hv0]; unfold atV; rw [hq0]; rfl
    clear hi hj hq0 hv0
    go_enter Try.func20, Try.ntmps20
    go_wp2_with ((first
      | ((with_reducible refine at_bi ?_); (try refine w_yes _ _ _ rfl rfl rfl ?_); refine i_len _ rfl rfl rfl hsf.out ?_)
      | fail) <;> (try simp only [Act.put, List.setIfInBounds_toArray, List.set_cons_zero, List.set_cons_succ]))
    go_ret2
    exact Keep.intro ⟨rfl, hX⟩
  · have t2 : decide ((l.length : Int) ≤ (j : Int)) = false := decide_eq_false (by omega)
    have t3 : decide (l.length ≤ j) = false := decide_eq_false hj
    obtain rfl : q = true := by rw [← hq0]; exact decide_eq_true (by omega)
    have hjl : j < l.length := by omega
    have hjl' := hide_ hjl
    have hx := hide_ (show l[j]'hjl'.out = x by rw [← hv0]; unfold atV; rw [hq0]; simp [List.getElem?_eq_getElem hjl])
    clear hi hj hq0 hv0 hjl
    go_enter Try.func20, Try.ntmps20
    go_wp2_with ((first
      | ((with_reducible refine at_bi ?_); (try refine w_yes _ _ _ rfl rfl rfl ?_); refine i_len _ rfl rfl rfl hsf.out ?_)
      | ((with_reducible refine at_idx ?_); refine i_idx _ _ j rfl rfl rfl hsf.out rfl hjl'.out ?_; intro ad had; rw [hx.out] at had)
      | fail) <;> (try simp only [Act.put, List.setIfInBounds_toArray, List.set_cons_zero, List.set_cons_succ]))
    go_ret2
    exact Keep.intro ⟨rfl, hX⟩
set_option maxRecDepth 100000 in
set_option maxHeartbeats 3200000 in
theorem refPut_any {F : Nat → Prop} {w : World} {v : Value} {l : List Int} {x : Int} (h0 : Safe F w v (i64s l)) (hF0 : ∀ k, F k → k < w.heap.size) (hm0 : l.length ≤ 4000) {q : Bool} (hq : decide (l.length < 4000) = q) :
    Calls Try.prog 16 #[v, .int .i64 x] w fun e w' => ∃ v', e = .returned (.tuple #[v', .bool q]) ∧ Ext w w' ∧ Safe F w' v' (i64s (if q then l ++ [x] else l)) := by
  refine calls_keep ?_
  have hX := Ext.refl w
  have hsf := hide_ h0
  have hi := hide_ (show Ints w v l from h0.sl)
  have hF := hide_ hF0
  clear h0 hF0
  cases q
  · have t1 : decide ((4000 : Int) ≤ (l.length : Int)) = true := decide_eq_true (by have := of_decide_eq_false hq; omega)
    have t2 : decide (4000 ≤ l.length) = true := decide_eq_true (by have := of_decide_eq_false hq; omega)
    clear hq
    go_enter Try.func16, Try.ntmps16
    go_wp2_with ((first
      | ((with_reducible refine at_bi ?_); (try refine w_yes _ _ _ rfl rfl rfl ?_); refine i_len _ rfl rfl rfl hi.out ?_)
      | fail) <;> (try simp only [Act.put, List.setIfInBounds_toArray, List.set_cons_zero, List.set_cons_succ]))
    go_ret2
    exact Keep.intro ⟨v, rfl, hX, hsf.out⟩
  · have t1 : decide ((4000 : Int) ≤ (l.length : Int)) = false := decide_eq_false (by have := of_decide_eq_true hq; omega)
    have t2 : decide (4000 ≤ l.length) = false := decide_eq_false (by have := of_decide_eq_true hq; omega)
    have hb1 := hide_ (show (([] : List Int).length + l.length) * 8 ≤ 140737488355328 by simp; omega)
    have hb2 := hide_ (show (([] ++ l : List Int).length + [x].length) * 8 ≤ 140737488355328 by simp; omega)
    clear hq
    go_enter Try.func16, Try.ntmps16
    go_wp2_with ((first
      | ((with_reducible refine at_bi ?_); (try refine w_yes _ _ _ rfl rfl rfl ?_); refine i_len _ rfl rfl rfl hi.out ?_)
      | ((with_reducible refine at_lit ?_); refine w_new Try.elI (i64s [x]) rfl rfl rfl (i64s_cells _) rfl (by omega) ?_; intro v3 w3 hx3 o3; replace o3 : OwnI _ w3 v3 [x] := o3; replace o2 := hide_ (o2.out.ext hx3); replace hX := hX.trans hx3; replace hs2 := hide_ (Nat.le_trans hs2.out hx3.size); clear hx3)
      | ((with_reducible refine at_lit ?_); refine w_new Try.elI (i64s []) rfl rfl rfl (i64s_cells _) rfl (by omega) ?_; intro v1 w1 hx1 o1; replace o1 : OwnI _ w1 v1 [] := o1; replace hX := hX.trans hx1; have hs1 := hide_ hx1.size; clear hx1)
      | ((with_reducible refine at_bi ?_); refine appi _ _ rfl rfl rfl rfl o2.out o3.ints hb2.out hs2.out ?_; intro v4 w4 o4 hb4 _ _; replace hX := hX.trans' hb4; replace o4 := hide_ o4; clear hb4 o3)
      | ((with_reducible refine at_bi ?_); refine appi _ _ rfl rfl rfl rfl o1 (hi.out.ext hX) hb1.out hs1.out ?_; intro v2 w2 o2 hb2' _ _; replace hX := hX.trans' hb2'; have hs2 := hide_ (Nat.le_trans hs1.out hb2'.size); replace o2 := hide_ o2; clear hb2' o1)
      | fail) <;> (try simp only [Act.put, List.setIfInBounds_toArray, List.set_cons_zero, List.set_cons_succ]))
    go_ret2
    have := o4.out
    rw [List.nil_append] at this
    exact Keep.intro ⟨v4, rfl, hX, this.safe hF.out⟩
set_option maxRecDepth 100000 in
set_option maxHeartbeats 3200000 in
theorem refTake_any {F : Nat → Prop} {w : World} {v : Value} {l : List Int} {i x : Int} (h0 : Safe F w v (i64s l)) (hF0 : ∀ k, F k → k < w.heap.size) (hm0 : l.length ≤ 4000) {q : Bool} (hq0 : atB l i = q) (hv0 : atV l i = x) :
    Calls Try.prog 18 #[v, .int .i64 i] w fun e w' => ∃ v', e = .returned (.tuple #[v', .int .i64 x, .bool q]) ∧ Ext w w' ∧ Safe F w' v' (i64s (if q then l.eraseIdx i.toNat else l)) := by
  refine calls_keep ?_
  have hX := Ext.refl w
  have hsf := hide_ h0
  have hi := hide_ (show Ints w v l from h0.sl)
  have hF := hide_ hF0
  have hv := hide_ hv0
  have hq := hide_ hq0
  clear h0 hF0
  cases q
  · obtain rfl : x = 0 := by rw [← hv0]; unfold atV; rw [hq0]; rfl
    clear hq0 hv0
    go_enter Try.func18, Try.ntmps18
    go_wp2_with (first
      | (go_at_call 20; refine (refAt_any hi.out hq.out hv.out).mono ?_; rintro e w4 ⟨rfl, hx⟩; replace hX := hX.trans hx; clear hx)
      | fail)
    go_ret3
    exact Keep.intro ⟨v, rfl, hX, hsf.out.ext hX⟩
  · obtain ⟨h1, h2⟩ := of_decide_eq_true (show decide (0 ≤ i ∧ i < l.length) = true from hq0)
    obtain ⟨j, rfl⟩ : ∃ j : Nat, i = j := ⟨i.toNat, by omega⟩
    have hj : j < l.length := by omega
    have hj' := hide_ (show j ≤ l.length by omega)
    have hj1 := hide_ (show j + 1 ≤ l.length by omega)
    have hj2 : j < 4000 := by omega
    have hb1 := hide_ (show (([] : List Int).length + (l.take j).length) * 8 ≤ 140737488355328 by simp; omega)
    have hb2 := hide_ (show (([] ++ l.take j : List Int).length + (l.drop (j + 1)).length) * 8 ≤ 140737488355328 by simp; omega)
    clear hq0 hv0 h1 h2 hj
    go_enter Try.func18, Try.ntmps18
    go_wp2_with ((first
      | (go_at_call 20; refine (refAt_any hi.out hq.out hv.out).mono ?_; rintro e w4 ⟨rfl, hx⟩; replace hX := hX.trans hx; clear hx)
      | ((with_reducible refine at_lit ?_); refine w_new Try.elI (i64s []) rfl rfl rfl (i64s_cells _) rfl (by omega) ?_; intro v1 w1 hx1 o1; replace o1 : OwnI _ w1 v1 [] := o1; have hso := hide_ hX.size; replace hX := hX.trans hx1; have hs1 := hide_ hx1.size; clear hx1)
      | ((with_reducible refine at_cut ?_); refine w_itoS _ _ j rfl rfl rfl (hi.out.ext hX) rfl hj'.out ?_; intro v5 r5; replace r5 := hide_ r5)
      | ((with_reducible refine at_cut ?_); refine w_ifromS _ _ (j + 1) rfl rfl rfl (hi.out.ext hX) rfl (by omega) hj1.out ?_; intro v6 r6; replace r6 := hide_ r6)
      | ((with_reducible refine at_bi ?_); refine appi _ _ rfl rfl rfl rfl o2.out r6.out hb2.out hs2.out ?_; intro v4 w4 o4 hb4 _ _; replace hX := hX.trans' (hb4.mono hso.out); replace o4 := hide_ o4; clear hb4 o2)
      | ((with_reducible refine at_bi ?_); refine appi _ _ rfl rfl rfl rfl o1 r5.out hb1.out hs1.out ?_; intro v2 w2 o2 hb2' _ _; replace hX := hX.trans' (hb2'.mono hso.out); have hs2 := hide_ (Nat.le_trans hs1.out hb2'.size); replace o2 := hide_ o2; clear hb2' o1 r5)
      | fail) <;> (try simp only [Act.put, List.setIfInBounds_toArray, List.set_cons_zero, List.set_cons_succ]))
    go_ret3
    have := o4.out
    rw [List.nil_append, ← List.eraseIdx_eq_take_drop_succ] at this
    exact Keep.intro ⟨v4, rfl, hX, this.safe fun k hk => Nat.lt_of_lt_of_le (hF.out k hk) hso.out⟩
theorem Try.arP : ArT Try.prog 70 3 7 [.int .i64 0, .int .i64 0, .int .i64 0, .int .i64 0, .int .i64 0, .int .i64 0, .int .i64 0] := ArT.of Try.underlying70 (by kernel_rfl) (by kernel_rfl) rfl
/-- The bits of the seven. -/
def pwC : List Value := [.int .i64 1, .int .i64 2, .int .i64 4, .int .i64 8, .int .i64 16, .int .i64 32, .int .i64 64]
theorem pwC_get {k : Nat} (hk : k < 7) : pwC[k]? = some (.int .i64 ((2 ^ k : Nat) : Int)) := by
  rcases cases7 hk with rfl | rfl | rfl | rfl | rfl | rfl | rfl <;> rfl
theorem runs_pwix {o : Oper} {w : World} {ρ : Operand → Value} {g i : Nat} (x y : Operand) (ho : o.op = .indexAddr 70 x y) (hx : ρ x = .pointer (some ⟨g, 0, none⟩)) (hy : ρ y = .int .i64 (i : Int)) (hi : i < 7) : Runs Try.prog o ρ w (.pointer (some ⟨g, i, none⟩)) := by
  obtain ⟨j, hj, hs⟩ := Try.arP.ei
  have := runs_aidx (o := o) (ρ := ρ) (w := w) Try.underlying70 hj hs x y ho hx i hy hi
  rwa [add_zero_off] at this
theorem w_pwbuild {ops : Array Oper} {rest : List Oper} {o : Oper} {a : Act} {Q : Exit → Act → World → Prop} {w : World} (hgd : o.guard = none) (ho : o.op = .build 70 #[(0, .const (.int .i64 1)), (1, .const (.int .i64 2)), (2, .const (.int .i64 4)), (3, .const (.int .i64 8)), (4, .const (.int .i64 16)), (5, .const (.int .i64 32)), (6, .const (.int .i64 64))])
    (k : wpList Try.prog ops Q rest (a.put o.dst (.agg pwC.toArray)) w) : wpList Try.prog ops Q (o :: rest) a w := by
  obtain ⟨i0, hi, hz, _⟩ := Try.arP.info
  obtain ⟨i1, hi1, hs1⟩ := Try.arP.ei
  refine wpList_runs hgd ?_ k
  unfold Runs execOp
  simp [ho, Instr.build, zeroValue, typeInfo, sizeOf, hi, hz, hi1, hs1, run_underlying Try.underlying70, Instr.fill, Value.cells, pwC, Act.eval]
set_option maxRecDepth 100000 in
set_option maxHeartbeats 3200000 in
theorem refSame_any {w : World} {m x y : Int} {q : Bool} (hq0 : sameM (bitM m) x y = q) : Calls Try.prog 24 #[.int .i64 m, .int .i64 x, .int .i64 y] w fun e w' => e = .returned (.bool q) ∧ Ext w w' := by
  refine calls_keep ?_
  have hX := Ext.refl w
  by_cases hx1 : x < 0
  · obtain rfl : q = false := by rw [← hq0]; unfold sameM; rw [decide_eq_false (p := 0 ≤ x ∧ x ≤ 6) (by omega)]; rfl
    have t1 : decide (x < 0) = true := decide_eq_true hx1
    clear hq0 hx1
    go_enter Try.func24, Try.ntmps24
    go_wp2_with (first
      | go_big_skip
      | fail)
    go_ret
    exact Keep.intro ⟨rfl, hX⟩
  by_cases hx2 : 6 < x
  · obtain rfl : q = false := by rw [← hq0]; unfold sameM; rw [decide_eq_false (p := 0 ≤ x ∧ x ≤ 6) (by omega)]; rfl
    have t1 : decide (x < 0) = false := decide_eq_false hx1
    have t2 : decide (6 < x) = true := decide_eq_true hx2
    clear hq0 hx2
    go_enter Try.func24, Try.ntmps24
    go_wp2_with (first
      | go_big_skip
      | fail)
    go_ret
    exact Keep.intro ⟨rfl, hX⟩
  by_cases hy1 : y < 0
  · obtain rfl : q = false := by rw [← hq0]; unfold sameM; rw [decide_eq_false (p := 0 ≤ y ∧ y ≤ 6) (by omega)]; simp
    have t1 : decide (x < 0) = false := decide_eq_false hx1
    have t2 : decide (6 < x) = false := decide_eq_false hx2
    have t3 : decide (y < 0) = true := decide_eq_true hy1
    clear hq0 hy1
    go_enter Try.func24, Try.ntmps24
    go_wp2_with (first
      | go_big_skip
      | fail)
    go_ret
    exact Keep.intro ⟨rfl, hX⟩
  by_cases hy2 : 6 < y
  · obtain rfl : q = false := by rw [← hq0]; unfold sameM; rw [decide_eq_false (p := 0 ≤ y ∧ y ≤ 6) (by omega)]; simp
    have t1 : decide (x < 0) = false := decide_eq_false hx1
    have t2 : decide (6 < x) = false := decide_eq_false hx2
    have t3 : decide (y < 0) = false := decide_eq_false hy1
    have t4 : decide (6 < y) = true := decide_eq_true hy2
    clear hq0 hy2
    go_enter Try.func24, Try.ntmps24
    go_wp2_with (first
      | go_big_skip
      | fail)
    go_ret
    exact Keep.intro ⟨rfl, hX⟩
  have hx : 0 ≤ x ∧ x ≤ 6 := by omega
  have hy : 0 ≤ y ∧ y ≤ 6 := by omega
  clear hx1 hx2 hy1 hy2
  · skip
    obtain ⟨i, rfl⟩ : ∃ i : Nat, x = i := ⟨x.toNat, by omega⟩
    obtain ⟨j, rfl⟩ : ∃ j : Nat, y = j := ⟨y.toNat, by omega⟩
    have hi0 : i < 7 := by omega
    have hj0 : j < 7 := by omega
    have t1 : decide ((i : Int) < 0) = false := decide_eq_false (by omega)
    have t2 : decide ((6 : Int) < (i : Int)) = false := decide_eq_false (by omega)
    have t3 : decide ((j : Int) < 0) = false := decide_eq_false (by omega)
    have t4 : decide ((6 : Int) < (j : Int)) = false := decide_eq_false (by omega)
    have hi := hide_ hi0
    have hj := hide_ hj0
    have hq := hide_ (show (bitM m i == bitM m j) = q by rw [← hq0]; unfold sameM; rw [decide_eq_true (by omega), decide_eq_true (by omega)]; rfl)
    clear hq0 hx hy
    go_enter Try.func24, Try.ntmps24
    go_wp2_with ((first
      | ((with_reducible refine at_sbuild ?_); refine w_pwbuild rfl rfl ?_)
      | ((with_reducible refine at_alloc ?_); refine w_arralloc Try.arP rfl rfl ?_; intro g7 w7 hg7 hx7 f7; replace hX := hX.trans hx7; clear hx7)
      | ((with_reducible refine at_store ?_); refine w_arrstore Try.arP (us := pwC) _ _ rfl rfl rfl rfl rfl f7 rfl rfl (by intro u hu; simp [pwC] at hu; rcases hu with rfl | rfl | rfl | rfl | rfl | rfl | rfl <;> rfl) ?_; intro w8 hm8 f8; replace hX := hm8.after hX (fun k hk => hk ▸ hg7); replace f7 := f8; clear f8 hm8 hg7)
      | fail) <;> (try simp only [Act.put, List.setIfInBounds_toArray, List.set_cons_zero, List.set_cons_succ]))
    refine wp_region_phx (by kernel_rfl) ?_; intro wd hxd; have F1 := f7.ext hxd
    refine Ph.rest 0 14 (by kernel_rfl) ?_
    refine LinL.step (s := (.val (.int .i64 m))) [(0, none)] rfl (by kernel_rfl) (op_out 0 (.int .i64 m) rfl (.inl rfl) rfl) ?_
    refine LinL.step (s := (.val (.int .i64 (i : Nat)))) [(1, none)] rfl (by kernel_rfl) (op_out 1 (.int .i64 (i : Nat)) rfl (.inl rfl) rfl) ?_
    refine LinL.step (s := (.val (.pointer (some ⟨g7, i, none⟩)))) [(7, none), (24, some 0)] rfl (by kernel_rfl) (op_runs rfl fun σ w' hx hg => ⟨_, runs_pwix (ρ := σ.eval) (w := w') (.tmp 7) (.tmp 24) rfl hg.1 hg.2.1 hi.out, rfl⟩) ?_
    refine LinL.step (s := (.val (.int .i64 ((2 ^ i : Nat) : Int)))) [(25, some 0)] rfl (by kernel_rfl) (op_runs rfl fun σ w' hx hg => ⟨_, runs_fload (ρ := σ.eval) (w := w') (.tmp 25) rfl hg.1 (agg_of (by kernel_rfl) _) (F1.ext hx) (pwC_get hi.out), rfl⟩) ?_
    refine LinL.step (s := (.val (.int .i64 (bits .and .i64 m ((2 ^ i : Nat) : Int))))) [(23, some 3), (26, some 0)] rfl (by kernel_rfl) (op_runs rfl fun σ w' hx hg => ⟨_, runs_band (ρ := σ.eval) (w := w') (.tmp 23) (.tmp 26) rfl hg.1 hg.2.1, rfl⟩) ?_
    refine LinL.step (s := (.val (.bool (bitM m i)))) [(27, some 0)] rfl (by kernel_rfl) (op_runs rfl fun σ w' hx hg => ⟨_, runs_bnez (ρ := σ.eval) (w := w') (.tmp 27) (.const (.int .i64 0)) rfl hg.1 rfl (bits_ne m hi.out), rfl⟩) ?_
    refine LinL.step (s := (.val (.int .i64 m))) [(0, none)] rfl (by kernel_rfl) (op_out 0 (.int .i64 m) rfl (.inl rfl) rfl) ?_
    refine LinL.step (s := (.val (.int .i64 (j : Nat)))) [(2, none)] rfl (by kernel_rfl) (op_out 2 (.int .i64 (j : Nat)) rfl (.inl rfl) rfl) ?_
    refine LinL.step (s := (.val (.pointer (some ⟨g7, j, none⟩)))) [(7, none), (30, some 0)] rfl (by kernel_rfl) (op_runs rfl fun σ w' hx hg => ⟨_, runs_pwix (ρ := σ.eval) (w := w') (.tmp 7) (.tmp 30) rfl hg.1 hg.2.1 hj.out, rfl⟩) ?_
    refine LinL.step (s := (.val (.int .i64 ((2 ^ j : Nat) : Int)))) [(31, some 0)] rfl (by kernel_rfl) (op_runs rfl fun σ w' hx hg => ⟨_, runs_fload (ρ := σ.eval) (w := w') (.tmp 31) rfl hg.1 (agg_of (by kernel_rfl) _) (F1.ext hx) (pwC_get hj.out), rfl⟩) ?_
    refine LinL.step (s := (.val (.int .i64 (bits .and .i64 m ((2 ^ j : Nat) : Int))))) [(29, some 3), (32, some 0)] rfl (by kernel_rfl) (op_runs rfl fun σ w' hx hg => ⟨_, runs_band (ρ := σ.eval) (w := w') (.tmp 29) (.tmp 32) rfl hg.1 hg.2.1, rfl⟩) ?_
    refine LinL.step (s := (.val (.bool (bitM m j)))) [(33, some 0)] rfl (by kernel_rfl) (op_runs rfl fun σ w' hx hg => ⟨_, runs_bnez (ρ := σ.eval) (w := w') (.tmp 33) (.const (.int .i64 0)) rfl hg.1 rfl (bits_ne m hj.out), rfl⟩) ?_
    refine LinL.step (s := (.val (.bool (bitM m i == bitM m j)))) [(28, some 6), (34, some 0)] rfl (by kernel_rfl) (op_runs rfl fun σ w' hx hg => ⟨_, runs_beqb (ρ := σ.eval) (w := w') (.tmp 28) (.tmp 34) Try.underlying4 rfl hg.1 hg.2.1, rfl⟩) ?_
    refine LinL.step (s := (.val (.bool (bitM m i == bitM m j)))) [(35, some 0)] rfl (by kernel_rfl) (op_copy 35 0 (.val (.bool (bitM m i == bitM m j))) rfl (.inr rfl) rfl) ?_
    intro wN hxN
    simp only [Fin', List.reverse_cons, List.reverse_nil, List.nil_append, List.cons_append, List.drop_zero, List.take_succ_cons, List.take_zero]
    simp only [Act.put, List.setIfInBounds_toArray, List.set_cons_zero, List.set_cons_succ]
    replace hX := hX.trans (hxd.trans hxN)
    go_wp2
    rw [hq.out]
    go_ret
    exact Keep.intro ⟨rfl, hX⟩
end Go.Proofs.Ytkkbpmkeemfppaa
