/- Which sides there are; to whom a packet goes: the contracts of package net. -/
import Derived.Test.YtkkbpmkeemfppaaNtN
import Derived.Test.YtkkbpmkeemfppaaArrV
namespace Go.Proofs.Ytkkbpmkeemfppaa
open Go.RowKit

set_option maxRecDepth 100000 in
set_option maxHeartbeats 3200000 in
theorem isNode_any {n : Int} {q : Bool} (hq : decide (0 ≤ n ∧ n ≤ 6) = q) {w : World} : Calls Try.prog 29 #[.int .i64 n] w fun e w' => e = .returned (.bool q) ∧ Ext w w' := by
  refine calls_keep ?_
  by_cases h : 0 ≤ n
  · have t1 : decide ((0 : Int) ≤ n) = true := decide_eq_true h
    have t2 : decide (n < 7) = q := by rw [← hq]; exact decide_eq_decide.2 ⟨fun h' => ⟨h, by omega⟩, fun h' => by omega⟩
    clear hq h
    go_enter Try.func29, Try.ntmps29
    go_wp2
    go_ret
    exact Keep.intro ⟨rfl, Ext.refl _⟩
  · obtain rfl : q = false := by rw [← hq]; exact decide_eq_false fun h' => h h'.1
    have t1 : decide ((0 : Int) ≤ n) = false := decide_eq_false h
    clear hq h
    go_enter Try.func29, Try.ntmps29
    go_wp2_with (first
      | go_big_skip
      | fail)
    go_ret
    exact Keep.intro ⟨rfl, Ext.refl _⟩
theorem retF {f : FuncId} {args : Array Value} {w : World} {u : Value} (h : Calls Try.prog f args w fun e w' => e = .returned u ∧ Ext w w') : Calls Try.prog f args w fun e w' => ∃ v', e = .returned v' ∧ Ext w w' ∧ Sp.p (.val u) v' w' := by
  refine h.mono ?_
  rintro e w' ⟨rfl, hx⟩
  exact ⟨_, rfl, hx, rfl⟩
section
variable {P : Program} {ops : Array Oper} {rest : List Oper} {o : Oper} {a : Act} {Q : Exit → Act → World → Prop} {w : World} {ρ : Operand → Value} {t t' : TypeId}
/-- Sides{}: all of it zero. -/
theorem w_szero (hgd : o.guard = none) (ho : o.op = .build 57 #[])
    (k : wpList Try.prog ops Q rest (a.put o.dst (.agg (sdC fun _ => false).toArray)) w) : wpList Try.prog ops Q (o :: rest) a w := by
  have hz : (Try.prog.info? 57).map (·.zero) = some (some (.agg (sdC fun _ => false).toArray)) := by kernel_rfl
  have hs : (Try.prog.info? 55).map (·.size) = some 7 := by kernel_rfl
  obtain ⟨i, hi, hz⟩ := Option.map_eq_some_iff.1 hz
  obtain ⟨j, hj, hs⟩ := Option.map_eq_some_iff.1 hs
  refine wpList_runs hgd ?_ k
  unfold Runs execOp
  simp [ho, Instr.build, zeroValue, typeInfo, sizeOf, hi, hz, hj, run_underlying Try.underlying57, Instr.fill, Value.cells]
theorem runs_shrK {m : Int} {k : Nat} (x y : Operand) (ho : o.op = .binOp .shr t x y t') (hx : ρ x = .int .i64 m) (hy : ρ y = .int .i64 (k : Int)) (hk : k < 7) : Runs P o ρ w (.int .i64 (m / 2 ^ k)) := by
  unfold Runs execOp
  simp only [ho, hx, hy]
  simp [go_sem]
theorem runs_band {m n : Int} (x y : Operand) (ho : o.op = .binOp .and t x y t') (hx : ρ x = .int .i64 m) (hy : ρ y = .int .i64 n) : Runs P o ρ w (.int .i64 (bits .and .i64 m n)) := by
  unfold Runs execOp
  simp [ho, hx, hy, go_sem]
theorem runs_beqz {m n : Int} {q : Bool} (x y : Operand) (ho : o.op = .binOp .eql t x y t') (hx : ρ x = .int .i64 m) (hy : ρ y = .int .i64 n) (hq : (m == n) = q) : Runs P o ρ w (.bool q) := by
  subst hq
  unfold Runs execOp
  simp [ho, hx, hy, go_sem]
theorem runs_bnez {m n : Int} {q : Bool} (x y : Operand) (ho : o.op = .binOp .neq t x y t') (hx : ρ x = .int .i64 m) (hy : ρ y = .int .i64 n) (hq : (m != n) = q) : Runs P o ρ w (.bool q) := by
  subst hq
  unfold Runs execOp
  simp [ho, hx, hy, go_sem]
theorem runs_beqb {m n : Bool} (x y : Operand) (hu : P.underlying t = some .bool) (ho : o.op = .binOp .eql t x y t') (hx : ρ x = .bool m) (hy : ρ y = .bool n) : Runs P o ρ w (.bool (m == n)) := by
  unfold Runs execOp
  simp [ho, hx, hy, go_sem, hu]
theorem runs_sdix {g i : Nat} (x y : Operand) (ho : o.op = .indexAddr 55 x y) (hx : ρ x = .pointer (some ⟨g, 0, none⟩)) (hy : ρ y = .int .i64 (i : Int)) (hi : i < 7) : Runs Try.prog o ρ w (.pointer (some ⟨g, i, none⟩)) := by
  have hb : (Try.prog.info? 4).map (·.size) = some 1 := by kernel_rfl
  obtain ⟨j, hj, hs⟩ := Option.map_eq_some_iff.1 hb
  have := runs_aidx (o := o) (ρ := ρ) (w := w) Try.underlying55 hj hs x y ho hx i hy hi
  rwa [add_zero_off] at this
end
set_option maxRecDepth 100000 in
set_option maxHeartbeats 3200000 in
theorem SNew_any {w : World} : Calls Try.prog 9 #[] w fun e w' => ∃ p, e = .returned (.pointer (some ⟨p, 0, none⟩)) ∧ Fs w' p (sdC fun _ => false) ∧ Ext w w' ∧ w.heap.size ≤ p := by
  refine calls_keep ?_
  go_enter Try.func9, Try.ntmps9
  go_wp2_with ((first
    | ((with_reducible refine at_sbuild ?_); refine w_szero rfl rfl ?_)
    | ((with_reducible refine at_box ?_); refine w_box _ (sdC fun _ => false) rfl rfl rfl rfl ?_; intro p w1 hp hX f1)
    | fail) <;> (try simp only [Act.put, List.setIfInBounds_toArray, List.set_cons_zero, List.set_cons_succ]))
  go_ret
  exact Keep.intro ⟨p, rfl, f1, hX, hp⟩
set_option maxRecDepth 100000 in
set_option maxHeartbeats 3200000 in
theorem SCut_any {w : World} {p : Nat} {b : Nat → Bool} {m : Int} (f0 : Fs w p (sdC b)) : Calls Try.prog 23 #[.pointer (some ⟨p, 0, none⟩), .int .i64 m] w fun e w' => e = .returned (.tuple #[]) ∧ Fs w' p (sdC (bitM m)) ∧ Mod (fun k => k = p) w w' := by
  refine calls_keep ?_
  replace f0 := hide_ f0
  go_enter Try.func23, Try.ntmps23
  go_wp2
  go_loopw [5] (fun i wr => ∃ k : Nat, i = .int .i64 k ∧ k ≤ 7 ∧ Hid (Fs wr p (sdC fun j => if j < k then bitM m j else b j)) ∧ Mod (fun k => k = p) w wr) (fun i _ => 7 - (RowKit.intOf i).toNat)
  case atStart => exact ⟨0, rfl, by omega, hide_ (by simpa using f0.out), Mod.refl _ _⟩
  case round =>
    obtain ⟨k, rfl, hk, f1, hM⟩ := hrel
    by_cases hge : 7 ≤ k
    · obtain rfl : k = 7 := by omega
      clear hge
      go_wp2
      go_end0
      refine Keep.intro ⟨rfl, ?_, hM⟩
      have := f1.out
      rwa [sdC_ext (d := bitM m) fun k hk => if_pos hk] at this
    have hlt : k < 7 := by omega
    have t1 : decide ((k : Int) < 7) = true := decide_eq_true (by omega)
    have hk' := hide_ hlt
    clear hge
    go_wp2
    refine wp_region_phx (by kernel_rfl) ?_; intro wd hxd; have F1 := f1.out.ext hxd
    refine Ph.gate 0 10 (by kernel_rfl) ?_
    refine LinL.step (s := (.val (.pointer (some ⟨p, 0, none⟩)))) [(0, none)] rfl (by kernel_rfl) (op_out 0 (.pointer (some ⟨p, 0, none⟩)) rfl (.inl rfl) rfl) ?_
    refine LinL.step (s := (.val (.int .i64 (k : Nat)))) [(4, none)] rfl (by kernel_rfl) (op_out 4 (.int .i64 (k : Nat)) rfl (.inl rfl) rfl) ?_
    refine LinL.step (s := (.val (.int .i64 m))) [(1, none)] rfl (by kernel_rfl) (op_out 1 (.int .i64 m) rfl (.inl rfl) rfl) ?_
    refine LinL.step (s := (.val (.int .i64 (k : Nat)))) [(4, none)] rfl (by kernel_rfl) (op_out 4 (.int .i64 (k : Nat)) rfl (.inl rfl) rfl) ?_
    refine LinL.step (s := (.val (.int .i64 (m / 2 ^ k)))) [(10, some 1), (11, some 0)] rfl (by kernel_rfl) (op_runs rfl fun σ w' hx hg => ⟨_, runs_shrK (ρ := σ.eval) (w := w') (.tmp 10) (.tmp 11) rfl hg.1 hg.2.1 hk'.out, rfl⟩) ?_
    refine LinL.step (s := (.val (.int .i64 (bits .and .i64 (m / 2 ^ k) 1)))) [(12, some 0)] rfl (by kernel_rfl) (op_runs rfl fun σ w' hx hg => ⟨_, runs_band (ρ := σ.eval) (w := w') (.tmp 12) (.const (.int .i64 1)) rfl hg.1 rfl, rfl⟩) ?_
    refine LinL.step (s := (.val (.bool (bitM m k)))) [(13, some 0)] rfl (by kernel_rfl) (op_runs rfl fun σ w' hx hg => ⟨_, runs_beqz (ρ := σ.eval) (w := w') (.tmp 13) (.const (.int .i64 1)) rfl hg.1 rfl (bits_shr m), rfl⟩) ?_
    refine LinL.step (s := (.val (.pointer (some ⟨p, 0, none⟩)))) [(8, some 6)] rfl (by kernel_rfl) (op_runs rfl fun σ w' hx hg => ⟨_, runs_nil (ρ := σ.eval) (w := w') (.tmp 8) rfl hg.1, rfl⟩) ?_
    refine LinL.step (s := (.val (.pointer (some ⟨p, 0, none⟩)))) [(15, some 0)] rfl (by kernel_rfl) (op_runs rfl fun σ w' hx hg => ⟨_, runs_fieldN (ρ := σ.eval) (w := w') (i := 0) (off := 0) (by kernel_rfl) (.tmp 15) p rfl hg.1, rfl⟩) ?_
    refine LinL.step (s := (.val (.pointer (some ⟨p, k, none⟩)))) [(16, some 0), (9, some 7)] rfl (by kernel_rfl) (op_runs rfl fun σ w' hx hg => ⟨_, runs_sdix (ρ := σ.eval) (w := w') (.tmp 16) (.tmp 9) rfl hg.1 hg.2.1 hk'.out, rfl⟩) ?_
    intro wN hxN
    simp only [Fin', List.reverse_cons, List.reverse_nil, List.nil_append, List.cons_append, List.drop_zero, List.take_succ_cons, List.take_zero]
    simp only [Act.put, List.setIfInBounds_toArray, List.set_cons_zero, List.set_cons_succ]
    have F2 := F1.ext hxN
    refine wpOp_of_list rfl ?_
    refine w_fstore _ _ (u := .bool (bitM m k)) rfl rfl rfl rfl rfl F2 (Nat.lt_of_lt_of_le hk'.out (Nat.le_refl 7)) rfl rfl (by kernel_rfl) ?_; intro w8 hm8 f8; rw [sdC_set _ hk'.out] at f8
    replace hM := (hM.trans ((hxd.trans hxN).mod fun k => k = p) fun _ _ h => h).trans hm8 fun _ _ h => h
    show Ph Try.prog _ _ 11 _ _
    refine Ph.rest 11 0 (by kernel_rfl) ?_
    intro wN2 hxN2
    simp only [Fin', List.reverse_nil, List.drop_zero, List.drop_succ_cons, List.take_zero]
    replace f8 := f8.ext hxN2; replace hM := hM.trans (hxN2.mod fun k => k = p) fun _ _ h => h
    go_wp2
    go_roundw
    case rel =>
      refine ⟨k + 1, by go_num, hk'.out, hide_ ?_, hM⟩
      have e : sdC (fun j => if j = k then bitM m k else if j < k then bitM m j else b j) = sdC fun j => if j < k + 1 then bitM m j else b j := sdC_ext fun j _ => by
        by_cases h1 : j = k
        · subst h1; rw [if_pos rfl, if_pos (by omega)]
        · rw [if_neg h1]
          by_cases h2 : j < k
          · rw [if_pos h2, if_pos (by omega)]
          · rw [if_neg h2, if_neg (by omega)]
      rwa [e] at f8
    case measure => simp [RowKit.intOf]; omega
set_option maxRecDepth 100000 in
set_option maxHeartbeats 3200000 in
theorem SSame_any {w : World} {p : Nat} {b : Nat → Bool} {x y : Int} (f0 : Fs w p (sdC b)) {q : Bool} (hq0 : sameM b x y = q) : Calls Try.prog 13 #[.pointer (some ⟨p, 0, none⟩), .int .i64 x, .int .i64 y] w fun e w' => e = .returned (.bool q) ∧ Ext w w' := by
  refine calls_keep ?_
  have f1 := hide_ f0
  have hX := Ext.refl w
  clear f0
  by_cases hx : 0 ≤ x ∧ x ≤ 6
  rotate_left
  · have hA := hide_ (decide_eq_false hx)
    obtain rfl : q = false := by rw [← hq0]; unfold sameM; rw [hA.out]; rfl
    clear hq0 hx
    go_enter Try.func13, Try.ntmps13
    go_wp2
    refine wp_region_phx (by kernel_rfl) ?_; intro wd hxd; have F1 := f1.out.ext hxd
    refine Ph.rest 0 22 (by kernel_rfl) ?_
    refine LinL.step (s := (.val (.int .i64 x))) [(1, none)] rfl (by kernel_rfl) (op_out 1 (.int .i64 x) rfl (.inl rfl) rfl) ?_
    refine LinL.step (s := (.val (.bool false))) [(7, some 0)] rfl (by kernel_rfl) (op_calls 29 #[(.tmp 7)] #[3] (fun σ => #[.int .i64 x]) rfl rfl (fun _ _ => rfl) fun σ w' hx hg => ⟨by have h7 : σ.tmps.getD 7 undef = .int .i64 x := hg.1; simp only [List.map_toArray, List.map_cons, List.map_nil, Act.eval, h7], retF (isNode_any hA.out)⟩) ?_
    refine LinL.step (s := (.val (.bool false))) [(8, some 0)] rfl (by kernel_rfl) (op_copy 8 0 (.val (.bool false)) rfl (.inl rfl) rfl) ?_
    refine LinL.step (s := .val undef) [(2, none), (9, some 0)] rfl (by kernel_rfl) (op_no (reads := [(2, none)]) 2 9 0 true rfl rfl rfl) ?_
    refine LinL.step (s := .val undef) [(10, some 0), (9, some 1)] rfl (by kernel_rfl) (op_no (reads := [(10, some 0)]) 2 9 1 true rfl rfl rfl) ?_
    refine LinL.step (s := (.val (.bool false))) [(9, some 2), (11, some 0)] rfl (by kernel_rfl) (op_runs rfl fun σ w' hx hg => ⟨_, runs_pick_f (ρ := σ.eval) (w := w') (.tmp 9) (.tmp 11) (.const (.bool false)) rfl hg.1 rfl, rfl⟩) ?_
    refine LinL.step (s := (.val (.bool false))) [(12, some 0)] rfl (by kernel_rfl) (op_copy 12 0 (.val (.bool false)) rfl (.inl rfl) rfl) ?_
    refine LinL.step (s := .val undef) [(0, none), (13, some 0)] rfl (by kernel_rfl) (op_no (reads := [(0, none)]) 6 13 0 true rfl rfl rfl) ?_
    refine LinL.step (s := .val undef) [(1, none), (13, some 1)] rfl (by kernel_rfl) (op_no (reads := [(1, none)]) 6 13 1 true rfl rfl rfl) ?_
    refine LinL.step (s := .val undef) [(14, some 1), (13, some 2)] rfl (by kernel_rfl) (op_no (reads := [(14, some 1)]) 6 13 2 true rfl rfl rfl) ?_
    refine LinL.step (s := .val undef) [(16, some 0), (13, some 3)] rfl (by kernel_rfl) (op_no (reads := [(16, some 0)]) 6 13 3 true rfl rfl rfl) ?_
    refine LinL.step (s := .val undef) [(17, some 0), (15, some 2), (13, some 4)] rfl (by kernel_rfl) (op_no (reads := [(17, some 0), (15, some 2)]) 6 13 4 true rfl rfl rfl) ?_
    refine LinL.step (s := .val undef) [(18, some 0), (13, some 5)] rfl (by kernel_rfl) (op_no (reads := [(18, some 0)]) 6 13 5 true rfl rfl rfl) ?_
    refine LinL.step (s := .val undef) [(0, none), (13, some 6)] rfl (by kernel_rfl) (op_no (reads := [(0, none)]) 6 13 6 true rfl rfl rfl) ?_
    refine LinL.step (s := .val undef) [(2, none), (13, some 7)] rfl (by kernel_rfl) (op_no (reads := [(2, none)]) 6 13 7 true rfl rfl rfl) ?_
    refine LinL.step (s := .val undef) [(20, some 1), (13, some 8)] rfl (by kernel_rfl) (op_no (reads := [(20, some 1)]) 6 13 8 true rfl rfl rfl) ?_
    refine LinL.step (s := .val undef) [(22, some 0), (13, some 9)] rfl (by kernel_rfl) (op_no (reads := [(22, some 0)]) 6 13 9 true rfl rfl rfl) ?_
    refine LinL.step (s := .val undef) [(23, some 0), (21, some 2), (13, some 10)] rfl (by kernel_rfl) (op_no (reads := [(23, some 0), (21, some 2)]) 6 13 10 true rfl rfl rfl) ?_
    refine LinL.step (s := .val undef) [(24, some 0), (13, some 11)] rfl (by kernel_rfl) (op_no (reads := [(24, some 0)]) 6 13 11 true rfl rfl rfl) ?_
    refine LinL.step (s := .val undef) [(19, some 6), (25, some 0), (13, some 12)] rfl (by kernel_rfl) (op_no (reads := [(19, some 6), (25, some 0)]) 6 13 12 true rfl rfl rfl) ?_
    refine LinL.step (s := (.val (.bool false))) [(13, some 13), (26, some 0)] rfl (by kernel_rfl) (op_runs rfl fun σ w' hx hg => ⟨_, runs_pick_f (ρ := σ.eval) (w := w') (.tmp 13) (.tmp 26) (.const (.bool false)) rfl hg.1 rfl, rfl⟩) ?_
    refine LinL.step (s := (.val (.bool false))) [(27, some 0)] rfl (by kernel_rfl) (op_copy 27 0 (.val (.bool false)) rfl (.inr rfl) rfl) ?_
    intro wN hxN
    simp only [Fin', List.reverse_cons, List.reverse_nil, List.nil_append, List.cons_append, List.drop_zero, List.take_succ_cons, List.take_zero]
    simp only [Act.put, List.setIfInBounds_toArray, List.set_cons_zero, List.set_cons_succ]
    replace hX := hxd.trans hxN
    go_wp2
    go_ret
    exact Keep.intro ⟨rfl, hX⟩
  by_cases hy : 0 ≤ y ∧ y ≤ 6
  rotate_left
  · have hC := hide_ (decide_eq_false hy)
    obtain rfl : q = false := by rw [← hq0]; unfold sameM; rw [hC.out]; simp
    obtain ⟨i, rfl⟩ : ∃ i : Nat, x = i := ⟨x.toNat, by omega⟩
    have hA := hide_ (decide_eq_true hx)
    clear hq0 hx hy
    go_enter Try.func13, Try.ntmps13
    go_wp2
    refine wp_region_phx (by kernel_rfl) ?_; intro wd hxd; have F1 := f1.out.ext hxd
    refine Ph.rest 0 22 (by kernel_rfl) ?_
    refine LinL.step (s := (.val (.int .i64 (i : Nat)))) [(1, none)] rfl (by kernel_rfl) (op_out 1 (.int .i64 (i : Nat)) rfl (.inl rfl) rfl) ?_
    refine LinL.step (s := (.val (.bool true))) [(7, some 0)] rfl (by kernel_rfl) (op_calls 29 #[(.tmp 7)] #[3] (fun σ => #[.int .i64 (i : Nat)]) rfl rfl (fun _ _ => rfl) fun σ w' hx hg => ⟨by have h7 : σ.tmps.getD 7 undef = .int .i64 (i : Nat) := hg.1; simp only [List.map_toArray, List.map_cons, List.map_nil, Act.eval, h7], retF (isNode_any hA.out)⟩) ?_
    refine LinL.step (s := (.val (.bool true))) [(8, some 0)] rfl (by kernel_rfl) (op_copy 8 0 (.val (.bool true)) rfl (.inl rfl) rfl) ?_
    refine LinL.step (s := (.val (.int .i64 y))) [(2, none), (9, some 0)] rfl (by kernel_rfl) (op_yes (reads := [(2, none)]) 2 9 0 true rfl rfl rfl (op_out 2 (.int .i64 y) rfl (.inl rfl) rfl)) ?_
    refine LinL.step (s := (.val (.bool false))) [(10, some 0), (9, some 1)] rfl (by kernel_rfl) (op_yes (reads := [(10, some 0)]) 2 9 1 true rfl rfl rfl (op_calls 29 #[(.tmp 10)] #[3] (fun σ => #[.int .i64 y]) rfl rfl (fun _ _ => rfl) fun σ w' hx hg => ⟨by have h10 : σ.tmps.getD 10 undef = .int .i64 y := hg.1; simp only [List.map_toArray, List.map_cons, List.map_nil, Act.eval, h10], retF (isNode_any hC.out)⟩)) ?_
    refine LinL.step (s := (.val (.bool false))) [(9, some 2), (11, some 0)] rfl (by kernel_rfl) (op_runs rfl fun σ w' hx hg => ⟨_, runs_pick_t (ρ := σ.eval) (w := w') (.tmp 9) (.tmp 11) (.const (.bool false)) rfl hg.1 hg.2.1, rfl⟩) ?_
    refine LinL.step (s := (.val (.bool false))) [(12, some 0)] rfl (by kernel_rfl) (op_copy 12 0 (.val (.bool false)) rfl (.inl rfl) rfl) ?_
    refine LinL.step (s := .val undef) [(0, none), (13, some 0)] rfl (by kernel_rfl) (op_no (reads := [(0, none)]) 6 13 0 true rfl rfl rfl) ?_
    refine LinL.step (s := .val undef) [(1, none), (13, some 1)] rfl (by kernel_rfl) (op_no (reads := [(1, none)]) 6 13 1 true rfl rfl rfl) ?_
    refine LinL.step (s := .val undef) [(14, some 1), (13, some 2)] rfl (by kernel_rfl) (op_no (reads := [(14, some 1)]) 6 13 2 true rfl rfl rfl) ?_
    refine LinL.step (s := .val undef) [(16, some 0), (13, some 3)] rfl (by kernel_rfl) (op_no (reads := [(16, some 0)]) 6 13 3 true rfl rfl rfl) ?_
    refine LinL.step (s := .val undef) [(17, some 0), (15, some 2), (13, some 4)] rfl (by kernel_rfl) (op_no (reads := [(17, some 0), (15, some 2)]) 6 13 4 true rfl rfl rfl) ?_
    refine LinL.step (s := .val undef) [(18, some 0), (13, some 5)] rfl (by kernel_rfl) (op_no (reads := [(18, some 0)]) 6 13 5 true rfl rfl rfl) ?_
    refine LinL.step (s := .val undef) [(0, none), (13, some 6)] rfl (by kernel_rfl) (op_no (reads := [(0, none)]) 6 13 6 true rfl rfl rfl) ?_
    refine LinL.step (s := .val undef) [(2, none), (13, some 7)] rfl (by kernel_rfl) (op_no (reads := [(2, none)]) 6 13 7 true rfl rfl rfl) ?_
    refine LinL.step (s := .val undef) [(20, some 1), (13, some 8)] rfl (by kernel_rfl) (op_no (reads := [(20, some 1)]) 6 13 8 true rfl rfl rfl) ?_
    refine LinL.step (s := .val undef) [(22, some 0), (13, some 9)] rfl (by kernel_rfl) (op_no (reads := [(22, some 0)]) 6 13 9 true rfl rfl rfl) ?_
    refine LinL.step (s := .val undef) [(23, some 0), (21, some 2), (13, some 10)] rfl (by kernel_rfl) (op_no (reads := [(23, some 0), (21, some 2)]) 6 13 10 true rfl rfl rfl) ?_
    refine LinL.step (s := .val undef) [(24, some 0), (13, some 11)] rfl (by kernel_rfl) (op_no (reads := [(24, some 0)]) 6 13 11 true rfl rfl rfl) ?_
    refine LinL.step (s := .val undef) [(19, some 6), (25, some 0), (13, some 12)] rfl (by kernel_rfl) (op_no (reads := [(19, some 6), (25, some 0)]) 6 13 12 true rfl rfl rfl) ?_
    refine LinL.step (s := (.val (.bool false))) [(13, some 13), (26, some 0)] rfl (by kernel_rfl) (op_runs rfl fun σ w' hx hg => ⟨_, runs_pick_f (ρ := σ.eval) (w := w') (.tmp 13) (.tmp 26) (.const (.bool false)) rfl hg.1 rfl, rfl⟩) ?_
    refine LinL.step (s := (.val (.bool false))) [(27, some 0)] rfl (by kernel_rfl) (op_copy 27 0 (.val (.bool false)) rfl (.inr rfl) rfl) ?_
    intro wN hxN
    simp only [Fin', List.reverse_cons, List.reverse_nil, List.nil_append, List.cons_append, List.drop_zero, List.take_succ_cons, List.take_zero]
    simp only [Act.put, List.setIfInBounds_toArray, List.set_cons_zero, List.set_cons_succ]
    replace hX := hxd.trans hxN
    go_wp2
    go_ret
    exact Keep.intro ⟨rfl, hX⟩
  · obtain ⟨i, rfl⟩ : ∃ i : Nat, x = i := ⟨x.toNat, by omega⟩
    obtain ⟨j, rfl⟩ : ∃ j : Nat, y = j := ⟨y.toNat, by omega⟩
    have hA := hide_ (decide_eq_true hx)
    have hC := hide_ (decide_eq_true hy)
    have hi := hide_ (show i < 7 by omega)
    have hj := hide_ (show j < 7 by omega)
    have hq := hide_ (show (b i == b j) = q by rw [← hq0]; unfold sameM; rw [hA.out, hC.out]; rfl)
    clear hq0 hx hy
    go_enter Try.func13, Try.ntmps13
    go_wp2
    refine wp_region_phx (by kernel_rfl) ?_; intro wd hxd; have F1 := f1.out.ext hxd
    refine Ph.rest 0 22 (by kernel_rfl) ?_
    refine LinL.step (s := (.val (.int .i64 (i : Nat)))) [(1, none)] rfl (by kernel_rfl) (op_out 1 (.int .i64 (i : Nat)) rfl (.inl rfl) rfl) ?_
    refine LinL.step (s := (.val (.bool true))) [(7, some 0)] rfl (by kernel_rfl) (op_calls 29 #[(.tmp 7)] #[3] (fun σ => #[.int .i64 (i : Nat)]) rfl rfl (fun _ _ => rfl) fun σ w' hx hg => ⟨by have h7 : σ.tmps.getD 7 undef = .int .i64 (i : Nat) := hg.1; simp only [List.map_toArray, List.map_cons, List.map_nil, Act.eval, h7], retF (isNode_any hA.out)⟩) ?_
    refine LinL.step (s := (.val (.bool true))) [(8, some 0)] rfl (by kernel_rfl) (op_copy 8 0 (.val (.bool true)) rfl (.inl rfl) rfl) ?_
    refine LinL.step (s := (.val (.int .i64 (j : Nat)))) [(2, none), (9, some 0)] rfl (by kernel_rfl) (op_yes (reads := [(2, none)]) 2 9 0 true rfl rfl rfl (op_out 2 (.int .i64 (j : Nat)) rfl (.inl rfl) rfl)) ?_
    refine LinL.step (s := (.val (.bool true))) [(10, some 0), (9, some 1)] rfl (by kernel_rfl) (op_yes (reads := [(10, some 0)]) 2 9 1 true rfl rfl rfl (op_calls 29 #[(.tmp 10)] #[3] (fun σ => #[.int .i64 (j : Nat)]) rfl rfl (fun _ _ => rfl) fun σ w' hx hg => ⟨by have h10 : σ.tmps.getD 10 undef = .int .i64 (j : Nat) := hg.1; simp only [List.map_toArray, List.map_cons, List.map_nil, Act.eval, h10], retF (isNode_any hC.out)⟩)) ?_
    refine LinL.step (s := (.val (.bool true))) [(9, some 2), (11, some 0)] rfl (by kernel_rfl) (op_runs rfl fun σ w' hx hg => ⟨_, runs_pick_t (ρ := σ.eval) (w := w') (.tmp 9) (.tmp 11) (.const (.bool false)) rfl hg.1 hg.2.1, rfl⟩) ?_
    refine LinL.step (s := (.val (.bool true))) [(12, some 0)] rfl (by kernel_rfl) (op_copy 12 0 (.val (.bool true)) rfl (.inl rfl) rfl) ?_
    refine LinL.step (s := (.val (.pointer (some ⟨p, 0, none⟩)))) [(0, none), (13, some 0)] rfl (by kernel_rfl) (op_yes (reads := [(0, none)]) 6 13 0 true rfl rfl rfl (op_out 0 (.pointer (some ⟨p, 0, none⟩)) rfl (.inl rfl) rfl)) ?_
    refine LinL.step (s := (.val (.int .i64 (i : Nat)))) [(1, none), (13, some 1)] rfl (by kernel_rfl) (op_yes (reads := [(1, none)]) 6 13 1 true rfl rfl rfl (op_out 1 (.int .i64 (i : Nat)) rfl (.inl rfl) rfl)) ?_
    refine LinL.step (s := (.val (.pointer (some ⟨p, 0, none⟩)))) [(14, some 1), (13, some 2)] rfl (by kernel_rfl) (op_yes (reads := [(14, some 1)]) 6 13 2 true rfl rfl rfl (op_runs rfl fun σ w' hx hg => ⟨_, runs_nil (ρ := σ.eval) (w := w') (.tmp 14) rfl hg.1, rfl⟩)) ?_
    refine LinL.step (s := (.val (.pointer (some ⟨p, 0, none⟩)))) [(16, some 0), (13, some 3)] rfl (by kernel_rfl) (op_yes (reads := [(16, some 0)]) 6 13 3 true rfl rfl rfl (op_runs rfl fun σ w' hx hg => ⟨_, runs_fieldN (ρ := σ.eval) (w := w') (i := 0) (off := 0) (by kernel_rfl) (.tmp 16) p rfl hg.1, rfl⟩)) ?_
    refine LinL.step (s := (.val (.pointer (some ⟨p, i, none⟩)))) [(17, some 0), (15, some 2), (13, some 4)] rfl (by kernel_rfl) (op_yes (reads := [(17, some 0), (15, some 2)]) 6 13 4 true rfl rfl rfl (op_runs rfl fun σ w' hx hg => ⟨_, runs_sdix (ρ := σ.eval) (w := w') (.tmp 17) (.tmp 15) rfl hg.1 hg.2.1 hi.out, rfl⟩)) ?_
    refine LinL.step (s := (.val (.bool (b i)))) [(18, some 0), (13, some 5)] rfl (by kernel_rfl) (op_yes (reads := [(18, some 0)]) 6 13 5 true rfl rfl rfl (op_runs rfl fun σ w' hx hg => ⟨_, runs_fload (ρ := σ.eval) (w := w') (.tmp 18) rfl hg.1 (agg_of (by kernel_rfl) _) (F1.ext hx) (sdC_get _ hi.out), rfl⟩)) ?_
    refine LinL.step (s := (.val (.pointer (some ⟨p, 0, none⟩)))) [(0, none), (13, some 6)] rfl (by kernel_rfl) (op_yes (reads := [(0, none)]) 6 13 6 true rfl rfl rfl (op_out 0 (.pointer (some ⟨p, 0, none⟩)) rfl (.inl rfl) rfl)) ?_
    refine LinL.step (s := (.val (.int .i64 (j : Nat)))) [(2, none), (13, some 7)] rfl (by kernel_rfl) (op_yes (reads := [(2, none)]) 6 13 7 true rfl rfl rfl (op_out 2 (.int .i64 (j : Nat)) rfl (.inl rfl) rfl)) ?_
    refine LinL.step (s := (.val (.pointer (some ⟨p, 0, none⟩)))) [(20, some 1), (13, some 8)] rfl (by kernel_rfl) (op_yes (reads := [(20, some 1)]) 6 13 8 true rfl rfl rfl (op_runs rfl fun σ w' hx hg => ⟨_, runs_nil (ρ := σ.eval) (w := w') (.tmp 20) rfl hg.1, rfl⟩)) ?_
    refine LinL.step (s := (.val (.pointer (some ⟨p, 0, none⟩)))) [(22, some 0), (13, some 9)] rfl (by kernel_rfl) (op_yes (reads := [(22, some 0)]) 6 13 9 true rfl rfl rfl (op_runs rfl fun σ w' hx hg => ⟨_, runs_fieldN (ρ := σ.eval) (w := w') (i := 0) (off := 0) (by kernel_rfl) (.tmp 22) p rfl hg.1, rfl⟩)) ?_
    refine LinL.step (s := (.val (.pointer (some ⟨p, j, none⟩)))) [(23, some 0), (21, some 2), (13, some 10)] rfl (by kernel_rfl) (op_yes (reads := [(23, some 0), (21, some 2)]) 6 13 10 true rfl rfl rfl (op_runs rfl fun σ w' hx hg => ⟨_, runs_sdix (ρ := σ.eval) (w := w') (.tmp 23) (.tmp 21) rfl hg.1 hg.2.1 hj.out, rfl⟩)) ?_
    refine LinL.step (s := (.val (.bool (b j)))) [(24, some 0), (13, some 11)] rfl (by kernel_rfl) (op_yes (reads := [(24, some 0)]) 6 13 11 true rfl rfl rfl (op_runs rfl fun σ w' hx hg => ⟨_, runs_fload (ρ := σ.eval) (w := w') (.tmp 24) rfl hg.1 (agg_of (by kernel_rfl) _) (F1.ext hx) (sdC_get _ hj.out), rfl⟩)) ?_
    refine LinL.step (s := (.val (.bool (b i == b j)))) [(19, some 6), (25, some 0), (13, some 12)] rfl (by kernel_rfl) (op_yes (reads := [(19, some 6), (25, some 0)]) 6 13 12 true rfl rfl rfl (op_runs rfl fun σ w' hx hg => ⟨_, runs_beqb (ρ := σ.eval) (w := w') (.tmp 19) (.tmp 25) Try.underlying4 rfl hg.1 hg.2.1, rfl⟩)) ?_
    refine LinL.step (s := (.val (.bool (b i == b j)))) [(13, some 13), (26, some 0)] rfl (by kernel_rfl) (op_runs rfl fun σ w' hx hg => ⟨_, runs_pick_t (ρ := σ.eval) (w := w') (.tmp 13) (.tmp 26) (.const (.bool false)) rfl hg.1 hg.2.1, rfl⟩) ?_
    refine LinL.step (s := (.val (.bool (b i == b j)))) [(27, some 0)] rfl (by kernel_rfl) (op_copy 27 0 (.val (.bool (b i == b j))) rfl (.inr rfl) rfl) ?_
    intro wN hxN
    simp only [Fin', List.reverse_cons, List.reverse_nil, List.nil_append, List.cons_append, List.drop_zero, List.take_succ_cons, List.take_zero]
    simp only [Act.put, List.setIfInBounds_toArray, List.set_cons_zero, List.set_cons_succ]
    replace hX := hxd.trans hxN
    go_wp2
    rw [hq.out]
    go_ret
    exact Keep.intro ⟨rfl, hX⟩
end Go.Proofs.Ytkkbpmkeemfppaa
