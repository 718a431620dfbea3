/- GateMarks returns true: no change of one byte of what an honest one said passes, but as another message of a bad one. No condition. -/
import Derived.Test.YtgbhbifdfcfamaaGtLa
import Derived.Test.YtgbhbifdfcfamaaGtX
import Derived.Test.YtgbhbifdfcfamaaGtR
import Derived.Test.YtgbhbifdfcfamaaMg10
import Derived.Test.YtgbhbifdfcfamaaArrV
import Derived.Test.YtgbhbifdfcfamaaArgI
import Derived.Test.YtgbhbifdfcfamaaArgA
import Derived.Test.YtgbhbifdfcfamaaRegI
import Derived.Deep.Cut
namespace Go.Proofs.Ytgbhbifdfcfamaa
set_option maxRecDepth 100000
open Go.RowKit Go.ChangeShapes Go.WideShapes Go.ChangeAt

theorem i64G {n : Int} (h : (Lit.int .i64 n).wf = true) : I64 n := by
  simp [Lit.wf, IntKind.min, IntKind.max, IntKind.signed, IntKind.bits] at h; unfold I64; omega
theorem Try.ar2 : ArT Try.prog 56 3 2 [.int .i64 0, .int .i64 0] := ArT.of Try.underlying56 (by kernel_rfl) (by kernel_rfl) rfl
theorem runs_a2 {o : Oper} {ρ : Operand → Value} {w : World} (x : Operand) {g : Nat} (i : Nat) (ho : o.op = .indexAddr 56 x (.const (.int .i64 (i : Nat)))) (hx : ρ x = .pointer (some ⟨g, 0, none⟩)) (hi : i < 2) (hc : ρ (.const (.int .i64 (i : Nat))) = .int .i64 (i : Nat) := by rfl) : Runs Try.prog o ρ w (.pointer (some ⟨g, i, none⟩)) := by
  obtain ⟨i1, h1, h2⟩ := Try.ar2.ei
  have := runs_aidx (o := o) (ρ := ρ) (w := w) Try.ar2.u h1 h2 x _ ho hx i hc hi
  rwa [add_zero_off] at this
theorem runs_leni {o : Oper} {ρ : Operand → Value} {w : World} {v : Value} {l : List Int} (x : Operand) (ho : o.op = .call { callee := .builtin .len, args := #[x], argTypes := #[24] }) (hv : ρ x = v) (h : Ints w v l) : Runs Try.prog o ρ w (.int .i64 (l.length : Nat)) := by
  have := runs_len Try.elI x ho hv h
  rw [i64s_length] at this; exact this
theorem runs_tou8 {o : Oper} {ρ : Operand → Value} {w : World} (x : Operand) {n : Int} (ho : o.op = .convert 3 5 x) (hx : ρ x = .int .i64 n) : Runs Try.prog o ρ w (.int .u8 (n % 256)) := by
  have e : IntKind.u8.wrap n = n % 256 := by simp [IntKind.wrap, IntKind.bits, IntKind.signed]
  unfold Runs execOp
  simp [ho, hx, go_sem, convert, Try.underlying3, Try.underlying5, run_underlying, e]
set_option maxRecDepth 100000 in
set_option maxHeartbeats 3200000 in
theorem gateMarks_law (row : List Value) (m : MsgD) (vb : Value) (bad : List Int) (a0 a1 : Int) (w : World) (ha : MsgR w row m) (hb0 : Ints w vb bad) (hw0 : I64 a0) (hw1 : I64 a1) :
    Calls Try.prog 7 #[vb, .agg row.toArray, .agg #[.int .i64 a0, .int .i64 a1]] w fun e w' => e = .returned (.bool true) ∧ Ext w w' := by
  obtain ⟨⟨u, rfl, r1⟩, hraw0⟩ := ha
  refine calls_keep ?_
  have hX := Ext.refl w
  have hb := hide_ hb0
  have hu := hide_ r1
  have hraw := hide_ (show I64 m.vl ∧ I64 m.bk.parent from ⟨hraw0.vl, hraw0.bk.parent⟩)
  clear hraw0 r1
  by_cases hr0 : m.Right
  rotate_left
  · have hright := hide_ hr0
    clear hr0 hb0 hw0 hw1
    go_enter Try.func7, Try.ntmps7
    go_wp2_with ((first
      | ((with_reducible refine at_box ?_); refine w_box (.tmp 1) (mRow m u) rfl rfl rfl rfl ?_; intro g4 w1 hg4 hx f4; replace hX := hX.trans hx; clear hx)
      | ((with_reducible refine at_box ?_); refine w_box (.tmp 2) [.int .i64 a0, .int .i64 a1] rfl rfl rfl rfl ?_; intro g5 w2 hg5 hx f5; replace f4 := f4.ext hx; replace hX := hX.trans hx; clear hx)
      | (go_at_call 9; refine (gateAlive_any _).mono ?_; rintro e w4 ⟨rfl, hx⟩; (try replace f4 := f4.ext hx); (try replace f5 := f5.ext hx); replace hX := hX.trans hx; clear hx)
      | ((with_reducible refine at_load ?_); refine w_loadN Try.stMsg _ (mRow m u) rfl rfl rfl f4 rfl mself_at ?_)
      | (go_at_call 19; refine (refMBytes_no (d := m) (u := u) hright.out (hu.out.ext TxR.stays hX) hraw.out.1 hraw.out.2).mono ?_; rintro e w3 ⟨rfl, hx⟩; replace f5 := f5.ext hx; replace hX := hX.trans hx; clear hx)
      | fail) <;> (try simp only [Act.put, List.setIfInBounds_toArray, List.set_cons_zero, List.set_cons_succ]))
    refine wp_region_phx (by kernel_rfl) ?_; intro wd hxd; have F5 := f5.ext hxd; have IB := hide_ (hb.out.ext (hX.trans hxd))
    refine Ph.rest 0 30 (by kernel_rfl) ?_
    refine LinL.step (s := (.val (.int .i64 121))) [(8, none)] rfl (by kernel_rfl) (op_out 8 (.int .i64 121) rfl (.inl rfl) rfl) ?_
    refine LinL.step (s := (.val (.bool true))) [(21, some 0)] rfl (by kernel_rfl) (op_runs rfl fun σ w' hx hg => ⟨(.bool true), by have h21 : σ.tmps.getD 21 undef = .int .i64 121 := hg.1; unfold Runs execOp; simp [Act.eval, h21, go_sem], rfl⟩) ?_
    refine LinL.step (s := (.val (.bool true))) [(22, some 0)] rfl (by kernel_rfl) (op_copy 22 0 (.val (.bool true)) rfl (.inl rfl) rfl) ?_
    refine LinL.step (s := .val undef) [(0, none), (23, some 0)] rfl (by kernel_rfl) (op_no (reads := [(0, none)]) 2 23 0 false rfl rfl rfl) ?_
    refine LinL.step (s := .val undef) [(24, some 0), (23, some 1)] rfl (by kernel_rfl) (op_no (reads := [(24, some 0)]) 2 23 1 false rfl rfl rfl) ?_
    refine LinL.step (s := .val undef) [(25, some 0), (23, some 2)] rfl (by kernel_rfl) (op_no (reads := [(25, some 0)]) 2 23 2 false rfl rfl rfl) ?_
    refine LinL.step (s := (.val (.bool true))) [(23, some 3), (26, some 0)] rfl (by kernel_rfl) (op_runs rfl fun σ w' hx hg => ⟨_, runs_pick_t (ρ := σ.eval) (w := w') (.tmp 23) (.const (.bool true)) (.tmp 26) rfl hg.1 rfl, rfl⟩) ?_
    refine LinL.step (s := (.val (.bool true))) [(27, some 0)] rfl (by kernel_rfl) (op_copy 27 0 (.val (.bool true)) rfl (.inl rfl) rfl) ?_
    refine LinL.step (s := .val undef) [(5, none), (28, some 0)] rfl (by kernel_rfl) (op_no (reads := [(5, none)]) 7 28 0 false rfl rfl rfl) ?_
    refine LinL.step (s := .val undef) [(29, some 0), (28, some 1)] rfl (by kernel_rfl) (op_no (reads := [(29, some 0)]) 7 28 1 false rfl rfl rfl) ?_
    refine LinL.step (s := .val undef) [(30, some 0), (28, some 2)] rfl (by kernel_rfl) (op_no (reads := [(30, some 0)]) 7 28 2 false rfl rfl rfl) ?_
    refine LinL.step (s := (.val (.bool true))) [(28, some 3), (31, some 0)] rfl (by kernel_rfl) (op_runs rfl fun σ w' hx hg => ⟨_, runs_pick_t (ρ := σ.eval) (w := w') (.tmp 28) (.const (.bool true)) (.tmp 31) rfl hg.1 rfl, rfl⟩) ?_
    refine LinL.step (s := (.val (.bool true))) [(32, some 0)] rfl (by kernel_rfl) (op_copy 32 0 (.val (.bool true)) rfl (.inl rfl) rfl) ?_
    refine LinL.step (s := .val undef) [(5, none), (33, some 0)] rfl (by kernel_rfl) (op_no (reads := [(5, none)]) 12 33 0 false rfl rfl rfl) ?_
    refine LinL.step (s := .val undef) [(34, some 0), (33, some 1)] rfl (by kernel_rfl) (op_no (reads := [(34, some 0)]) 12 33 1 false rfl rfl rfl) ?_
    refine LinL.step (s := .val undef) [(7, none), (33, some 2)] rfl (by kernel_rfl) (op_no (reads := [(7, none)]) 12 33 2 false rfl rfl rfl) ?_
    refine LinL.step (s := .val undef) [(36, some 0), (33, some 3)] rfl (by kernel_rfl) (op_no (reads := [(36, some 0)]) 12 33 3 false rfl rfl rfl) ?_
    refine LinL.step (s := .val undef) [(35, some 2), (37, some 0), (33, some 4)] rfl (by kernel_rfl) (op_no (reads := [(35, some 2), (37, some 0)]) 12 33 4 false rfl rfl rfl) ?_
    refine LinL.step (s := (.val (.bool true))) [(33, some 5), (38, some 0)] rfl (by kernel_rfl) (op_runs rfl fun σ w' hx hg => ⟨_, runs_pick_t (ρ := σ.eval) (w := w') (.tmp 33) (.const (.bool true)) (.tmp 38) rfl hg.1 rfl, rfl⟩) ?_
    refine LinL.step (s := (.val (.bool true))) [(39, some 0)] rfl (by kernel_rfl) (op_copy 39 0 (.val (.bool true)) rfl (.inl rfl) rfl) ?_
    refine LinL.step (s := .val undef) [(5, none), (40, some 0)] rfl (by kernel_rfl) (op_no (reads := [(5, none)]) 19 40 0 false rfl rfl rfl) ?_
    refine LinL.step (s := .val undef) [(41, some 0), (40, some 1)] rfl (by kernel_rfl) (op_no (reads := [(41, some 0)]) 19 40 1 false rfl rfl rfl) ?_
    refine LinL.step (s := .val undef) [(42, some 0), (40, some 2)] rfl (by kernel_rfl) (op_no (reads := [(42, some 0)]) 19 40 2 false rfl rfl rfl) ?_
    refine LinL.step (s := .val undef) [(7, none), (40, some 3)] rfl (by kernel_rfl) (op_no (reads := [(7, none)]) 19 40 3 false rfl rfl rfl) ?_
    refine LinL.step (s := .val undef) [(5, none), (40, some 4)] rfl (by kernel_rfl) (op_no (reads := [(5, none)]) 19 40 4 false rfl rfl rfl) ?_
    refine LinL.step (s := .val undef) [(45, some 0), (40, some 5)] rfl (by kernel_rfl) (op_no (reads := [(45, some 0)]) 19 40 5 false rfl rfl rfl) ?_
    refine LinL.step (s := .val undef) [(44, some 2), (46, some 0), (40, some 6)] rfl (by kernel_rfl) (op_no (reads := [(44, some 2), (46, some 0)]) 19 40 6 false rfl rfl rfl) ?_
    refine LinL.step (s := .val undef) [(47, some 0), (40, some 7)] rfl (by kernel_rfl) (op_no (reads := [(47, some 0)]) 19 40 7 false rfl rfl rfl) ?_
    refine LinL.step (s := .val undef) [(43, some 5), (48, some 0), (40, some 8)] rfl (by kernel_rfl) (op_no (reads := [(43, some 5), (48, some 0)]) 19 40 8 false rfl rfl rfl) ?_
    refine LinL.step (s := (.val (.bool true))) [(40, some 9), (49, some 0)] rfl (by kernel_rfl) (op_runs rfl fun σ w' hx hg => ⟨_, runs_pick_t (ρ := σ.eval) (w := w') (.tmp 40) (.const (.bool true)) (.tmp 49) rfl hg.1 rfl, rfl⟩) ?_
    intro wN hxN
    simp only [Fin', List.reverse_cons, List.reverse_nil, List.nil_append, List.cons_append, List.drop_zero, List.take_succ_cons, List.take_zero]
    simp only [Act.put, List.setIfInBounds_toArray, List.set_cons_zero, List.set_cons_succ]
    replace hX := hX.trans (hxd.trans hxN)
    go_wp2
    go_ret
    exact Keep.intro ⟨rfl, hX⟩
  have hright := hide_ hr0
  obtain ⟨x, hxe0⟩ : ∃ x, x = m.bytes := ⟨_, rfl⟩
  have hxe := hide_ hxe0
  have hxl := hide_ (show x.length ≤ 180 from by rw [hxe0]; exact MsgD.bytes_len hr0)
  have hx256 := hide_ (show ∀ c ∈ x, c < 256 from by rw [hxe0]; exact m.bytes_lt)
  have hrx := hide_ (show rdMsg x = some m from by rw [hxe0]; exact rd_bytes' hr0)
  clear hr0 hxe0
  go_enter Try.func7, Try.ntmps7
  go_upto_region 4 with ((first
    | ((with_reducible refine at_box ?_); refine w_box (.tmp 1) (mRow m u) rfl rfl rfl rfl ?_; intro g4 w1 hg4 hx f4; replace hX := hX.trans hx; clear hx)
    | ((with_reducible refine at_box ?_); refine w_box (.tmp 2) [.int .i64 a0, .int .i64 a1] rfl rfl rfl rfl ?_; intro g5 w2 hg5 hx f5; replace f4 := f4.ext hx; replace hX := hX.trans hx; clear hx)
    | (go_at_call 9; refine (gateAlive_any _).mono ?_; rintro e w4 ⟨rfl, hx⟩; (try replace f4 := f4.ext hx); (try replace f5 := f5.ext hx); replace hX := hX.trans hx; clear hx)
    | ((with_reducible refine at_load ?_); refine w_loadN Try.stMsg _ (mRow m u) rfl rfl rfl f4 rfl mself_at ?_)
    | (go_at_call 19; refine (refMBytes_yes (d := m) (u := u) hright.out (hu.out.ext TxR.stays hX) hraw.out.1 hraw.out.2).mono ?_; rintro e w3 ⟨v7, rfl, o7, hx⟩; have b7 := hide_ (show Byt w3 v7 x from hxe.out ▸ o7.byt); have n7 := hide_ (fun k hk => (own_block_lt (g := k) o7 hk).2); have s7 := hide_ (Nat.le_refl w3.heap.size); replace f5 := f5.ext hx; clear o7; replace hX := hX.trans hx; clear hx)
    | fail) <;> (try simp only [Act.put, List.setIfInBounds_toArray, List.set_cons_zero, List.set_cons_succ]))
  by_cases hB : 20 < bad.length
  · have t2 : (20 : Int) < (bad.length : Int) := by omega
    clear hB hb0 hw0 hw1
    refine wp_region_phx (by kernel_rfl) ?_; intro wd hxd; have F5 := f5.ext hxd; have IB := hide_ (hb.out.ext (hX.trans hxd)); have B7 := hide_ (b7.out.ext hxd)
    refine Ph.rest 0 30 (by kernel_rfl) ?_
    refine LinL.step (s := (.val (.int .i64 0))) [(8, none)] rfl (by kernel_rfl) (op_out 8 (.int .i64 0) rfl (.inl rfl) rfl) ?_
    refine LinL.step (s := (.val (.bool false))) [(21, some 0)] rfl (by kernel_rfl) (op_runs rfl fun σ w' hx hg => ⟨(.bool false), by have h21 : σ.tmps.getD 21 undef = .int .i64 0 := hg.1; unfold Runs execOp; simp [Act.eval, h21, go_sem], rfl⟩) ?_
    refine LinL.step (s := (.val (.bool false))) [(22, some 0)] rfl (by kernel_rfl) (op_copy 22 0 (.val (.bool false)) rfl (.inl rfl) rfl) ?_
    refine LinL.step (s := (.val (vb))) [(0, none), (23, some 0)] rfl (by kernel_rfl) (op_yes (reads := [(0, none)]) 2 23 0 false rfl rfl rfl (op_out 0 (vb) rfl (.inl rfl) rfl)) ?_
    refine LinL.step (s := (.val (.int .i64 (bad.length : Nat)))) [(24, some 0), (23, some 1)] rfl (by kernel_rfl) (op_yes (reads := [(24, some 0)]) 2 23 1 false rfl rfl rfl (op_runs rfl fun σ w' hx hg => ⟨_, runs_leni (ρ := σ.eval) (w := w') (.tmp 24) rfl hg.1 (IB.out.ext hx), rfl⟩)) ?_
    refine LinL.step (s := (.val (.bool true))) [(25, some 0), (23, some 2)] rfl (by kernel_rfl) (op_yes (reads := [(25, some 0)]) 2 23 2 false rfl rfl rfl (op_runs rfl fun σ w' hx hg => ⟨(.bool true), by have h25 : σ.tmps.getD 25 undef = .int .i64 (bad.length : Nat) := hg.1; unfold Runs execOp; simp [Act.eval, h25, go_sem, t2], rfl⟩)) ?_
    refine LinL.step (s := (.val (.bool true))) [(23, some 3), (26, some 0)] rfl (by kernel_rfl) (op_runs rfl fun σ w' hx hg => ⟨_, runs_pick_f (ρ := σ.eval) (w := w') (.tmp 23) (.const (.bool true)) (.tmp 26) rfl hg.1 hg.2.1, rfl⟩) ?_
    refine LinL.step (s := (.val (.bool true))) [(27, some 0)] rfl (by kernel_rfl) (op_copy 27 0 (.val (.bool true)) rfl (.inl rfl) rfl) ?_
    refine LinL.step (s := .val undef) [(5, none), (28, some 0)] rfl (by kernel_rfl) (op_no (reads := [(5, none)]) 7 28 0 false rfl rfl rfl) ?_
    refine LinL.step (s := .val undef) [(29, some 0), (28, some 1)] rfl (by kernel_rfl) (op_no (reads := [(29, some 0)]) 7 28 1 false rfl rfl rfl) ?_
    refine LinL.step (s := .val undef) [(30, some 0), (28, some 2)] rfl (by kernel_rfl) (op_no (reads := [(30, some 0)]) 7 28 2 false rfl rfl rfl) ?_
    refine LinL.step (s := (.val (.bool true))) [(28, some 3), (31, some 0)] rfl (by kernel_rfl) (op_runs rfl fun σ w' hx hg => ⟨_, runs_pick_t (ρ := σ.eval) (w := w') (.tmp 28) (.const (.bool true)) (.tmp 31) rfl hg.1 rfl, rfl⟩) ?_
    refine LinL.step (s := (.val (.bool true))) [(32, some 0)] rfl (by kernel_rfl) (op_copy 32 0 (.val (.bool true)) rfl (.inl rfl) rfl) ?_
    refine LinL.step (s := .val undef) [(5, none), (33, some 0)] rfl (by kernel_rfl) (op_no (reads := [(5, none)]) 12 33 0 false rfl rfl rfl) ?_
    refine LinL.step (s := .val undef) [(34, some 0), (33, some 1)] rfl (by kernel_rfl) (op_no (reads := [(34, some 0)]) 12 33 1 false rfl rfl rfl) ?_
    refine LinL.step (s := .val undef) [(7, none), (33, some 2)] rfl (by kernel_rfl) (op_no (reads := [(7, none)]) 12 33 2 false rfl rfl rfl) ?_
    refine LinL.step (s := .val undef) [(36, some 0), (33, some 3)] rfl (by kernel_rfl) (op_no (reads := [(36, some 0)]) 12 33 3 false rfl rfl rfl) ?_
    refine LinL.step (s := .val undef) [(35, some 2), (37, some 0), (33, some 4)] rfl (by kernel_rfl) (op_no (reads := [(35, some 2), (37, some 0)]) 12 33 4 false rfl rfl rfl) ?_
    refine LinL.step (s := (.val (.bool true))) [(33, some 5), (38, some 0)] rfl (by kernel_rfl) (op_runs rfl fun σ w' hx hg => ⟨_, runs_pick_t (ρ := σ.eval) (w := w') (.tmp 33) (.const (.bool true)) (.tmp 38) rfl hg.1 rfl, rfl⟩) ?_
    refine LinL.step (s := (.val (.bool true))) [(39, some 0)] rfl (by kernel_rfl) (op_copy 39 0 (.val (.bool true)) rfl (.inl rfl) rfl) ?_
    refine LinL.step (s := .val undef) [(5, none), (40, some 0)] rfl (by kernel_rfl) (op_no (reads := [(5, none)]) 19 40 0 false rfl rfl rfl) ?_
    refine LinL.step (s := .val undef) [(41, some 0), (40, some 1)] rfl (by kernel_rfl) (op_no (reads := [(41, some 0)]) 19 40 1 false rfl rfl rfl) ?_
    refine LinL.step (s := .val undef) [(42, some 0), (40, some 2)] rfl (by kernel_rfl) (op_no (reads := [(42, some 0)]) 19 40 2 false rfl rfl rfl) ?_
    refine LinL.step (s := .val undef) [(7, none), (40, some 3)] rfl (by kernel_rfl) (op_no (reads := [(7, none)]) 19 40 3 false rfl rfl rfl) ?_
    refine LinL.step (s := .val undef) [(5, none), (40, some 4)] rfl (by kernel_rfl) (op_no (reads := [(5, none)]) 19 40 4 false rfl rfl rfl) ?_
    refine LinL.step (s := .val undef) [(45, some 0), (40, some 5)] rfl (by kernel_rfl) (op_no (reads := [(45, some 0)]) 19 40 5 false rfl rfl rfl) ?_
    refine LinL.step (s := .val undef) [(44, some 2), (46, some 0), (40, some 6)] rfl (by kernel_rfl) (op_no (reads := [(44, some 2), (46, some 0)]) 19 40 6 false rfl rfl rfl) ?_
    refine LinL.step (s := .val undef) [(47, some 0), (40, some 7)] rfl (by kernel_rfl) (op_no (reads := [(47, some 0)]) 19 40 7 false rfl rfl rfl) ?_
    refine LinL.step (s := .val undef) [(43, some 5), (48, some 0), (40, some 8)] rfl (by kernel_rfl) (op_no (reads := [(43, some 5), (48, some 0)]) 19 40 8 false rfl rfl rfl) ?_
    refine LinL.step (s := (.val (.bool true))) [(40, some 9), (49, some 0)] rfl (by kernel_rfl) (op_runs rfl fun σ w' hx hg => ⟨_, runs_pick_t (ρ := σ.eval) (w := w') (.tmp 40) (.const (.bool true)) (.tmp 49) rfl hg.1 rfl, rfl⟩) ?_
    intro wN hxN
    simp only [Fin', List.reverse_cons, List.reverse_nil, List.nil_append, List.cons_append, List.drop_zero, List.take_succ_cons, List.take_zero]
    simp only [Act.put, List.setIfInBounds_toArray, List.set_cons_zero, List.set_cons_succ]
    replace hX := hX.trans (hxd.trans hxN)
    go_wp2
    go_ret
    exact Keep.intro ⟨rfl, hX⟩
  have t2 : (bad.length : Int) ≤ 20 := by omega
  have hbl := hide_ (show bad.length ≤ 20 from by omega)
  clear hB
  by_cases hC : a0 < 0
  · have t3 : decide (a0 < 0) = true := decide_eq_true hC
    clear hC hb0 hw0 hw1
    refine wp_region_phx (by kernel_rfl) ?_; intro wd hxd; have F5 := f5.ext hxd; have IB := hide_ (hb.out.ext (hX.trans hxd)); have B7 := hide_ (b7.out.ext hxd)
    refine Ph.rest 0 30 (by kernel_rfl) ?_
    refine LinL.step (s := (.val (.int .i64 0))) [(8, none)] rfl (by kernel_rfl) (op_out 8 (.int .i64 0) rfl (.inl rfl) rfl) ?_
    refine LinL.step (s := (.val (.bool false))) [(21, some 0)] rfl (by kernel_rfl) (op_runs rfl fun σ w' hx hg => ⟨(.bool false), by have h21 : σ.tmps.getD 21 undef = .int .i64 0 := hg.1; unfold Runs execOp; simp [Act.eval, h21, go_sem], rfl⟩) ?_
    refine LinL.step (s := (.val (.bool false))) [(22, some 0)] rfl (by kernel_rfl) (op_copy 22 0 (.val (.bool false)) rfl (.inl rfl) rfl) ?_
    refine LinL.step (s := (.val (vb))) [(0, none), (23, some 0)] rfl (by kernel_rfl) (op_yes (reads := [(0, none)]) 2 23 0 false rfl rfl rfl (op_out 0 (vb) rfl (.inl rfl) rfl)) ?_
    refine LinL.step (s := (.val (.int .i64 (bad.length : Nat)))) [(24, some 0), (23, some 1)] rfl (by kernel_rfl) (op_yes (reads := [(24, some 0)]) 2 23 1 false rfl rfl rfl (op_runs rfl fun σ w' hx hg => ⟨_, runs_leni (ρ := σ.eval) (w := w') (.tmp 24) rfl hg.1 (IB.out.ext hx), rfl⟩)) ?_
    refine LinL.step (s := (.val (.bool false))) [(25, some 0), (23, some 2)] rfl (by kernel_rfl) (op_yes (reads := [(25, some 0)]) 2 23 2 false rfl rfl rfl (op_runs rfl fun σ w' hx hg => ⟨(.bool false), by have h25 : σ.tmps.getD 25 undef = .int .i64 (bad.length : Nat) := hg.1; unfold Runs execOp; simp [Act.eval, h25, go_sem, t2], rfl⟩)) ?_
    refine LinL.step (s := (.val (.bool false))) [(23, some 3), (26, some 0)] rfl (by kernel_rfl) (op_runs rfl fun σ w' hx hg => ⟨_, runs_pick_f (ρ := σ.eval) (w := w') (.tmp 23) (.const (.bool true)) (.tmp 26) rfl hg.1 hg.2.1, rfl⟩) ?_
    refine LinL.step (s := (.val (.bool false))) [(27, some 0)] rfl (by kernel_rfl) (op_copy 27 0 (.val (.bool false)) rfl (.inl rfl) rfl) ?_
    refine LinL.step (s := (.val (.pointer (some ⟨g5, 0, none⟩)))) [(5, none), (28, some 0)] rfl (by kernel_rfl) (op_yes (reads := [(5, none)]) 7 28 0 false rfl rfl rfl (op_runs rfl fun σ w' hx hg => ⟨_, runs_a2 (ρ := σ.eval) (w := w') (.tmp 5) 0 rfl hg.1 (by omega), rfl⟩)) ?_
    refine LinL.step (s := (.val (.int .i64 a0))) [(29, some 0), (28, some 1)] rfl (by kernel_rfl) (op_yes (reads := [(29, some 0)]) 7 28 1 false rfl rfl rfl (op_runs rfl fun σ w' hx hg => ⟨_, runs_fload (ρ := σ.eval) (w := w') (.tmp 29) rfl hg.1 (agg_of (by kernel_rfl) _) (F5.ext hx) rfl, rfl⟩)) ?_
    refine LinL.step (s := (.val (.bool true))) [(30, some 0), (28, some 2)] rfl (by kernel_rfl) (op_yes (reads := [(30, some 0)]) 7 28 2 false rfl rfl rfl (op_runs rfl fun σ w' hx hg => ⟨(.bool true), by have h30 : σ.tmps.getD 30 undef = .int .i64 a0 := hg.1; unfold Runs execOp; simp [Act.eval, h30, go_sem, t3], rfl⟩)) ?_
    refine LinL.step (s := (.val (.bool true))) [(28, some 3), (31, some 0)] rfl (by kernel_rfl) (op_runs rfl fun σ w' hx hg => ⟨_, runs_pick_f (ρ := σ.eval) (w := w') (.tmp 28) (.const (.bool true)) (.tmp 31) rfl hg.1 hg.2.1, rfl⟩) ?_
    refine LinL.step (s := (.val (.bool true))) [(32, some 0)] rfl (by kernel_rfl) (op_copy 32 0 (.val (.bool true)) rfl (.inl rfl) rfl) ?_
    refine LinL.step (s := .val undef) [(5, none), (33, some 0)] rfl (by kernel_rfl) (op_no (reads := [(5, none)]) 12 33 0 false rfl rfl rfl) ?_
    refine LinL.step (s := .val undef) [(34, some 0), (33, some 1)] rfl (by kernel_rfl) (op_no (reads := [(34, some 0)]) 12 33 1 false rfl rfl rfl) ?_
    refine LinL.step (s := .val undef) [(7, none), (33, some 2)] rfl (by kernel_rfl) (op_no (reads := [(7, none)]) 12 33 2 false rfl rfl rfl) ?_
    refine LinL.step (s := .val undef) [(36, some 0), (33, some 3)] rfl (by kernel_rfl) (op_no (reads := [(36, some 0)]) 12 33 3 false rfl rfl rfl) ?_
    refine LinL.step (s := .val undef) [(35, some 2), (37, some 0), (33, some 4)] rfl (by kernel_rfl) (op_no (reads := [(35, some 2), (37, some 0)]) 12 33 4 false rfl rfl rfl) ?_
    refine LinL.step (s := (.val (.bool true))) [(33, some 5), (38, some 0)] rfl (by kernel_rfl) (op_runs rfl fun σ w' hx hg => ⟨_, runs_pick_t (ρ := σ.eval) (w := w') (.tmp 33) (.const (.bool true)) (.tmp 38) rfl hg.1 rfl, rfl⟩) ?_
    refine LinL.step (s := (.val (.bool true))) [(39, some 0)] rfl (by kernel_rfl) (op_copy 39 0 (.val (.bool true)) rfl (.inl rfl) rfl) ?_
    refine LinL.step (s := .val undef) [(5, none), (40, some 0)] rfl (by kernel_rfl) (op_no (reads := [(5, none)]) 19 40 0 false rfl rfl rfl) ?_
    refine LinL.step (s := .val undef) [(41, some 0), (40, some 1)] rfl (by kernel_rfl) (op_no (reads := [(41, some 0)]) 19 40 1 false rfl rfl rfl) ?_
    refine LinL.step (s := .val undef) [(42, some 0), (40, some 2)] rfl (by kernel_rfl) (op_no (reads := [(42, some 0)]) 19 40 2 false rfl rfl rfl) ?_
    refine LinL.step (s := .val undef) [(7, none), (40, some 3)] rfl (by kernel_rfl) (op_no (reads := [(7, none)]) 19 40 3 false rfl rfl rfl) ?_
    refine LinL.step (s := .val undef) [(5, none), (40, some 4)] rfl (by kernel_rfl) (op_no (reads := [(5, none)]) 19 40 4 false rfl rfl rfl) ?_
    refine LinL.step (s := .val undef) [(45, some 0), (40, some 5)] rfl (by kernel_rfl) (op_no (reads := [(45, some 0)]) 19 40 5 false rfl rfl rfl) ?_
    refine LinL.step (s := .val undef) [(44, some 2), (46, some 0), (40, some 6)] rfl (by kernel_rfl) (op_no (reads := [(44, some 2), (46, some 0)]) 19 40 6 false rfl rfl rfl) ?_
    refine LinL.step (s := .val undef) [(47, some 0), (40, some 7)] rfl (by kernel_rfl) (op_no (reads := [(47, some 0)]) 19 40 7 false rfl rfl rfl) ?_
    refine LinL.step (s := .val undef) [(43, some 5), (48, some 0), (40, some 8)] rfl (by kernel_rfl) (op_no (reads := [(43, some 5), (48, some 0)]) 19 40 8 false rfl rfl rfl) ?_
    refine LinL.step (s := (.val (.bool true))) [(40, some 9), (49, some 0)] rfl (by kernel_rfl) (op_runs rfl fun σ w' hx hg => ⟨_, runs_pick_t (ρ := σ.eval) (w := w') (.tmp 40) (.const (.bool true)) (.tmp 49) rfl hg.1 rfl, rfl⟩) ?_
    intro wN hxN
    simp only [Fin', List.reverse_cons, List.reverse_nil, List.nil_append, List.cons_append, List.drop_zero, List.take_succ_cons, List.take_zero]
    simp only [Act.put, List.setIfInBounds_toArray, List.set_cons_zero, List.set_cons_succ]
    replace hX := hX.trans (hxd.trans hxN)
    go_wp2
    go_ret
    exact Keep.intro ⟨rfl, hX⟩
  have t3 : decide (a0 < 0) = false := decide_eq_false hC
  by_cases hD : (x.length : Int) ≤ a0
  · have t4 : decide ((x.length : Int) ≤ a0) = true := decide_eq_true hD
    clear hC hD hb0 hw0 hw1
    refine wp_region_phx (by kernel_rfl) ?_; intro wd hxd; have F5 := f5.ext hxd; have IB := hide_ (hb.out.ext (hX.trans hxd)); have B7 := hide_ (b7.out.ext hxd)
    refine Ph.rest 0 30 (by kernel_rfl) ?_
    refine LinL.step (s := (.val (.int .i64 0))) [(8, none)] rfl (by kernel_rfl) (op_out 8 (.int .i64 0) rfl (.inl rfl) rfl) ?_
    refine LinL.step (s := (.val (.bool false))) [(21, some 0)] rfl (by kernel_rfl) (op_runs rfl fun σ w' hx hg => ⟨(.bool false), by have h21 : σ.tmps.getD 21 undef = .int .i64 0 := hg.1; unfold Runs execOp; simp [Act.eval, h21, go_sem], rfl⟩) ?_
    refine LinL.step (s := (.val (.bool false))) [(22, some 0)] rfl (by kernel_rfl) (op_copy 22 0 (.val (.bool false)) rfl (.inl rfl) rfl) ?_
    refine LinL.step (s := (.val (vb))) [(0, none), (23, some 0)] rfl (by kernel_rfl) (op_yes (reads := [(0, none)]) 2 23 0 false rfl rfl rfl (op_out 0 (vb) rfl (.inl rfl) rfl)) ?_
    refine LinL.step (s := (.val (.int .i64 (bad.length : Nat)))) [(24, some 0), (23, some 1)] rfl (by kernel_rfl) (op_yes (reads := [(24, some 0)]) 2 23 1 false rfl rfl rfl (op_runs rfl fun σ w' hx hg => ⟨_, runs_leni (ρ := σ.eval) (w := w') (.tmp 24) rfl hg.1 (IB.out.ext hx), rfl⟩)) ?_
    refine LinL.step (s := (.val (.bool false))) [(25, some 0), (23, some 2)] rfl (by kernel_rfl) (op_yes (reads := [(25, some 0)]) 2 23 2 false rfl rfl rfl (op_runs rfl fun σ w' hx hg => ⟨(.bool false), by have h25 : σ.tmps.getD 25 undef = .int .i64 (bad.length : Nat) := hg.1; unfold Runs execOp; simp [Act.eval, h25, go_sem, t2], rfl⟩)) ?_
    refine LinL.step (s := (.val (.bool false))) [(23, some 3), (26, some 0)] rfl (by kernel_rfl) (op_runs rfl fun σ w' hx hg => ⟨_, runs_pick_f (ρ := σ.eval) (w := w') (.tmp 23) (.const (.bool true)) (.tmp 26) rfl hg.1 hg.2.1, rfl⟩) ?_
    refine LinL.step (s := (.val (.bool false))) [(27, some 0)] rfl (by kernel_rfl) (op_copy 27 0 (.val (.bool false)) rfl (.inl rfl) rfl) ?_
    refine LinL.step (s := (.val (.pointer (some ⟨g5, 0, none⟩)))) [(5, none), (28, some 0)] rfl (by kernel_rfl) (op_yes (reads := [(5, none)]) 7 28 0 false rfl rfl rfl (op_runs rfl fun σ w' hx hg => ⟨_, runs_a2 (ρ := σ.eval) (w := w') (.tmp 5) 0 rfl hg.1 (by omega), rfl⟩)) ?_
    refine LinL.step (s := (.val (.int .i64 a0))) [(29, some 0), (28, some 1)] rfl (by kernel_rfl) (op_yes (reads := [(29, some 0)]) 7 28 1 false rfl rfl rfl (op_runs rfl fun σ w' hx hg => ⟨_, runs_fload (ρ := σ.eval) (w := w') (.tmp 29) rfl hg.1 (agg_of (by kernel_rfl) _) (F5.ext hx) rfl, rfl⟩)) ?_
    refine LinL.step (s := (.val (.bool false))) [(30, some 0), (28, some 2)] rfl (by kernel_rfl) (op_yes (reads := [(30, some 0)]) 7 28 2 false rfl rfl rfl (op_runs rfl fun σ w' hx hg => ⟨(.bool false), by have h30 : σ.tmps.getD 30 undef = .int .i64 a0 := hg.1; unfold Runs execOp; simp [Act.eval, h30, go_sem, t3], rfl⟩)) ?_
    refine LinL.step (s := (.val (.bool false))) [(28, some 3), (31, some 0)] rfl (by kernel_rfl) (op_runs rfl fun σ w' hx hg => ⟨_, runs_pick_f (ρ := σ.eval) (w := w') (.tmp 28) (.const (.bool true)) (.tmp 31) rfl hg.1 hg.2.1, rfl⟩) ?_
    refine LinL.step (s := (.val (.bool false))) [(32, some 0)] rfl (by kernel_rfl) (op_copy 32 0 (.val (.bool false)) rfl (.inl rfl) rfl) ?_
    refine LinL.step (s := (.val (.pointer (some ⟨g5, 0, none⟩)))) [(5, none), (33, some 0)] rfl (by kernel_rfl) (op_yes (reads := [(5, none)]) 12 33 0 false rfl rfl rfl (op_runs rfl fun σ w' hx hg => ⟨_, runs_a2 (ρ := σ.eval) (w := w') (.tmp 5) 0 rfl hg.1 (by omega), rfl⟩)) ?_
    refine LinL.step (s := (.val (.int .i64 a0))) [(34, some 0), (33, some 1)] rfl (by kernel_rfl) (op_yes (reads := [(34, some 0)]) 12 33 1 false rfl rfl rfl (op_runs rfl fun σ w' hx hg => ⟨_, runs_fload (ρ := σ.eval) (w := w') (.tmp 34) rfl hg.1 (agg_of (by kernel_rfl) _) (F5.ext hx) rfl, rfl⟩)) ?_
    refine LinL.step (s := (.val (v7))) [(7, none), (33, some 2)] rfl (by kernel_rfl) (op_yes (reads := [(7, none)]) 12 33 2 false rfl rfl rfl (op_out 7 (v7) rfl (.inl rfl) rfl)) ?_
    refine LinL.step (s := (.val (.int .i64 (x.length : Nat)))) [(36, some 0), (33, some 3)] rfl (by kernel_rfl) (op_yes (reads := [(36, some 0)]) 12 33 3 false rfl rfl rfl (op_runs rfl fun σ w' hx hg => ⟨_, runs_lenb (ρ := σ.eval) (w := w') (.tmp 36) rfl hg.1 (B7.out.ext hx), rfl⟩)) ?_
    refine LinL.step (s := (.val (.bool true))) [(35, some 2), (37, some 0), (33, some 4)] rfl (by kernel_rfl) (op_yes (reads := [(35, some 2), (37, some 0)]) 12 33 4 false rfl rfl rfl (op_runs rfl fun σ w' hx hg => ⟨(.bool true), by have h35 : σ.tmps.getD 35 undef = .int .i64 a0 := hg.1; have h37 : σ.tmps.getD 37 undef = .int .i64 (x.length : Nat) := hg.2.1; unfold Runs execOp; simp [Act.eval, h35, h37, go_sem, t4], rfl⟩)) ?_
    refine LinL.step (s := (.val (.bool true))) [(33, some 5), (38, some 0)] rfl (by kernel_rfl) (op_runs rfl fun σ w' hx hg => ⟨_, runs_pick_f (ρ := σ.eval) (w := w') (.tmp 33) (.const (.bool true)) (.tmp 38) rfl hg.1 hg.2.1, rfl⟩) ?_
    refine LinL.step (s := (.val (.bool true))) [(39, some 0)] rfl (by kernel_rfl) (op_copy 39 0 (.val (.bool true)) rfl (.inl rfl) rfl) ?_
    refine LinL.step (s := .val undef) [(5, none), (40, some 0)] rfl (by kernel_rfl) (op_no (reads := [(5, none)]) 19 40 0 false rfl rfl rfl) ?_
    refine LinL.step (s := .val undef) [(41, some 0), (40, some 1)] rfl (by kernel_rfl) (op_no (reads := [(41, some 0)]) 19 40 1 false rfl rfl rfl) ?_
    refine LinL.step (s := .val undef) [(42, some 0), (40, some 2)] rfl (by kernel_rfl) (op_no (reads := [(42, some 0)]) 19 40 2 false rfl rfl rfl) ?_
    refine LinL.step (s := .val undef) [(7, none), (40, some 3)] rfl (by kernel_rfl) (op_no (reads := [(7, none)]) 19 40 3 false rfl rfl rfl) ?_
    refine LinL.step (s := .val undef) [(5, none), (40, some 4)] rfl (by kernel_rfl) (op_no (reads := [(5, none)]) 19 40 4 false rfl rfl rfl) ?_
    refine LinL.step (s := .val undef) [(45, some 0), (40, some 5)] rfl (by kernel_rfl) (op_no (reads := [(45, some 0)]) 19 40 5 false rfl rfl rfl) ?_
    refine LinL.step (s := .val undef) [(44, some 2), (46, some 0), (40, some 6)] rfl (by kernel_rfl) (op_no (reads := [(44, some 2), (46, some 0)]) 19 40 6 false rfl rfl rfl) ?_
    refine LinL.step (s := .val undef) [(47, some 0), (40, some 7)] rfl (by kernel_rfl) (op_no (reads := [(47, some 0)]) 19 40 7 false rfl rfl rfl) ?_
    refine LinL.step (s := .val undef) [(43, some 5), (48, some 0), (40, some 8)] rfl (by kernel_rfl) (op_no (reads := [(43, some 5), (48, some 0)]) 19 40 8 false rfl rfl rfl) ?_
    refine LinL.step (s := (.val (.bool true))) [(40, some 9), (49, some 0)] rfl (by kernel_rfl) (op_runs rfl fun σ w' hx hg => ⟨_, runs_pick_t (ρ := σ.eval) (w := w') (.tmp 40) (.const (.bool true)) (.tmp 49) rfl hg.1 rfl, rfl⟩) ?_
    intro wN hxN
    simp only [Fin', List.reverse_cons, List.reverse_nil, List.nil_append, List.cons_append, List.drop_zero, List.take_succ_cons, List.take_zero]
    simp only [Act.put, List.setIfInBounds_toArray, List.set_cons_zero, List.set_cons_succ]
    replace hX := hX.trans (hxd.trans hxN)
    go_wp2
    go_ret
    exact Keep.intro ⟨rfl, hX⟩
  obtain ⟨i, rfl⟩ : ∃ i : Nat, a0 = i := ⟨a0.toNat, by omega⟩
  have t4 : decide (x.length ≤ i) = false := decide_eq_false (by omega)
  have hi0 : i < x.length := by omega
  have hi := hide_ hi0
  obtain ⟨z0, hz00⟩ : ∃ z0, x[i]? = some z0 := ⟨_, List.getElem?_eq_getElem hi0⟩
  have hz0 := hide_ (show x[i]'hi.out = z0 from (List.getElem?_eq_some_iff.1 hz00).2)
  by_cases hE : a1 % 256 = (z0 : Int)
  · have t5 : (a1 % 256 == (z0 : Int)) = true := beq_iff_eq.2 hE
    clear hC hD hb0 hw0 hw1 hE hz00
    refine wp_region_phx (by kernel_rfl) ?_; intro wd hxd; have F5 := f5.ext hxd; have IB := hide_ (hb.out.ext (hX.trans hxd)); have B7 := hide_ (b7.out.ext hxd)
    refine Ph.rest 0 30 (by kernel_rfl) ?_
    refine LinL.step (s := (.val (.int .i64 0))) [(8, none)] rfl (by kernel_rfl) (op_out 8 (.int .i64 0) rfl (.inl rfl) rfl) ?_
    refine LinL.step (s := (.val (.bool false))) [(21, some 0)] rfl (by kernel_rfl) (op_runs rfl fun σ w' hx hg => ⟨(.bool false), by have h21 : σ.tmps.getD 21 undef = .int .i64 0 := hg.1; unfold Runs execOp; simp [Act.eval, h21, go_sem], rfl⟩) ?_
    refine LinL.step (s := (.val (.bool false))) [(22, some 0)] rfl (by kernel_rfl) (op_copy 22 0 (.val (.bool false)) rfl (.inl rfl) rfl) ?_
    refine LinL.step (s := (.val (vb))) [(0, none), (23, some 0)] rfl (by kernel_rfl) (op_yes (reads := [(0, none)]) 2 23 0 false rfl rfl rfl (op_out 0 (vb) rfl (.inl rfl) rfl)) ?_
    refine LinL.step (s := (.val (.int .i64 (bad.length : Nat)))) [(24, some 0), (23, some 1)] rfl (by kernel_rfl) (op_yes (reads := [(24, some 0)]) 2 23 1 false rfl rfl rfl (op_runs rfl fun σ w' hx hg => ⟨_, runs_leni (ρ := σ.eval) (w := w') (.tmp 24) rfl hg.1 (IB.out.ext hx), rfl⟩)) ?_
    refine LinL.step (s := (.val (.bool false))) [(25, some 0), (23, some 2)] rfl (by kernel_rfl) (op_yes (reads := [(25, some 0)]) 2 23 2 false rfl rfl rfl (op_runs rfl fun σ w' hx hg => ⟨(.bool false), by have h25 : σ.tmps.getD 25 undef = .int .i64 (bad.length : Nat) := hg.1; unfold Runs execOp; simp [Act.eval, h25, go_sem, t2], rfl⟩)) ?_
    refine LinL.step (s := (.val (.bool false))) [(23, some 3), (26, some 0)] rfl (by kernel_rfl) (op_runs rfl fun σ w' hx hg => ⟨_, runs_pick_f (ρ := σ.eval) (w := w') (.tmp 23) (.const (.bool true)) (.tmp 26) rfl hg.1 hg.2.1, rfl⟩) ?_
    refine LinL.step (s := (.val (.bool false))) [(27, some 0)] rfl (by kernel_rfl) (op_copy 27 0 (.val (.bool false)) rfl (.inl rfl) rfl) ?_
    refine LinL.step (s := (.val (.pointer (some ⟨g5, 0, none⟩)))) [(5, none), (28, some 0)] rfl (by kernel_rfl) (op_yes (reads := [(5, none)]) 7 28 0 false rfl rfl rfl (op_runs rfl fun σ w' hx hg => ⟨_, runs_a2 (ρ := σ.eval) (w := w') (.tmp 5) 0 rfl hg.1 (by omega), rfl⟩)) ?_
    refine LinL.step (s := (.val (.int .i64 (i : Nat)))) [(29, some 0), (28, some 1)] rfl (by kernel_rfl) (op_yes (reads := [(29, some 0)]) 7 28 1 false rfl rfl rfl (op_runs rfl fun σ w' hx hg => ⟨_, runs_fload (ρ := σ.eval) (w := w') (.tmp 29) rfl hg.1 (agg_of (by kernel_rfl) _) (F5.ext hx) rfl, rfl⟩)) ?_
    refine LinL.step (s := (.val (.bool false))) [(30, some 0), (28, some 2)] rfl (by kernel_rfl) (op_yes (reads := [(30, some 0)]) 7 28 2 false rfl rfl rfl (op_runs rfl fun σ w' hx hg => ⟨(.bool false), by have h30 : σ.tmps.getD 30 undef = .int .i64 (i : Nat) := hg.1; unfold Runs execOp; simp [Act.eval, h30, go_sem, t3], rfl⟩)) ?_
    refine LinL.step (s := (.val (.bool false))) [(28, some 3), (31, some 0)] rfl (by kernel_rfl) (op_runs rfl fun σ w' hx hg => ⟨_, runs_pick_f (ρ := σ.eval) (w := w') (.tmp 28) (.const (.bool true)) (.tmp 31) rfl hg.1 hg.2.1, rfl⟩) ?_
    refine LinL.step (s := (.val (.bool false))) [(32, some 0)] rfl (by kernel_rfl) (op_copy 32 0 (.val (.bool false)) rfl (.inl rfl) rfl) ?_
    refine LinL.step (s := (.val (.pointer (some ⟨g5, 0, none⟩)))) [(5, none), (33, some 0)] rfl (by kernel_rfl) (op_yes (reads := [(5, none)]) 12 33 0 false rfl rfl rfl (op_runs rfl fun σ w' hx hg => ⟨_, runs_a2 (ρ := σ.eval) (w := w') (.tmp 5) 0 rfl hg.1 (by omega), rfl⟩)) ?_
    refine LinL.step (s := (.val (.int .i64 (i : Nat)))) [(34, some 0), (33, some 1)] rfl (by kernel_rfl) (op_yes (reads := [(34, some 0)]) 12 33 1 false rfl rfl rfl (op_runs rfl fun σ w' hx hg => ⟨_, runs_fload (ρ := σ.eval) (w := w') (.tmp 34) rfl hg.1 (agg_of (by kernel_rfl) _) (F5.ext hx) rfl, rfl⟩)) ?_
    refine LinL.step (s := (.val (v7))) [(7, none), (33, some 2)] rfl (by kernel_rfl) (op_yes (reads := [(7, none)]) 12 33 2 false rfl rfl rfl (op_out 7 (v7) rfl (.inl rfl) rfl)) ?_
    refine LinL.step (s := (.val (.int .i64 (x.length : Nat)))) [(36, some 0), (33, some 3)] rfl (by kernel_rfl) (op_yes (reads := [(36, some 0)]) 12 33 3 false rfl rfl rfl (op_runs rfl fun σ w' hx hg => ⟨_, runs_lenb (ρ := σ.eval) (w := w') (.tmp 36) rfl hg.1 (B7.out.ext hx), rfl⟩)) ?_
    refine LinL.step (s := (.val (.bool false))) [(35, some 2), (37, some 0), (33, some 4)] rfl (by kernel_rfl) (op_yes (reads := [(35, some 2), (37, some 0)]) 12 33 4 false rfl rfl rfl (op_runs rfl fun σ w' hx hg => ⟨(.bool false), by have h35 : σ.tmps.getD 35 undef = .int .i64 (i : Nat) := hg.1; have h37 : σ.tmps.getD 37 undef = .int .i64 (x.length : Nat) := hg.2.1; unfold Runs execOp; simp [Act.eval, h35, h37, go_sem, t4], rfl⟩)) ?_
    refine LinL.step (s := (.val (.bool false))) [(33, some 5), (38, some 0)] rfl (by kernel_rfl) (op_runs rfl fun σ w' hx hg => ⟨_, runs_pick_f (ρ := σ.eval) (w := w') (.tmp 33) (.const (.bool true)) (.tmp 38) rfl hg.1 hg.2.1, rfl⟩) ?_
    refine LinL.step (s := (.val (.bool false))) [(39, some 0)] rfl (by kernel_rfl) (op_copy 39 0 (.val (.bool false)) rfl (.inl rfl) rfl) ?_
    refine LinL.step (s := (.val (.pointer (some ⟨g5, 1, none⟩)))) [(5, none), (40, some 0)] rfl (by kernel_rfl) (op_yes (reads := [(5, none)]) 19 40 0 false rfl rfl rfl (op_runs rfl fun σ w' hx hg => ⟨_, runs_a2 (ρ := σ.eval) (w := w') (.tmp 5) 1 rfl hg.1 (by omega), rfl⟩)) ?_
    refine LinL.step (s := (.val (.int .i64 a1))) [(41, some 0), (40, some 1)] rfl (by kernel_rfl) (op_yes (reads := [(41, some 0)]) 19 40 1 false rfl rfl rfl (op_runs rfl fun σ w' hx hg => ⟨_, runs_fload (ρ := σ.eval) (w := w') (.tmp 41) rfl hg.1 (agg_of (by kernel_rfl) _) (F5.ext hx) rfl, rfl⟩)) ?_
    refine LinL.step (s := (.val (.int .u8 (a1 % 256)))) [(42, some 0), (40, some 2)] rfl (by kernel_rfl) (op_yes (reads := [(42, some 0)]) 19 40 2 false rfl rfl rfl (op_runs rfl fun σ w' hx hg => ⟨_, runs_tou8 (ρ := σ.eval) (w := w') (.tmp 42) rfl hg.1, rfl⟩)) ?_
    refine LinL.step (s := (.val (v7))) [(7, none), (40, some 3)] rfl (by kernel_rfl) (op_yes (reads := [(7, none)]) 19 40 3 false rfl rfl rfl (op_out 7 (v7) rfl (.inl rfl) rfl)) ?_
    refine LinL.step (s := (.val (.pointer (some ⟨g5, 0, none⟩)))) [(5, none), (40, some 4)] rfl (by kernel_rfl) (op_yes (reads := [(5, none)]) 19 40 4 false rfl rfl rfl (op_runs rfl fun σ w' hx hg => ⟨_, runs_a2 (ρ := σ.eval) (w := w') (.tmp 5) 0 rfl hg.1 (by omega), rfl⟩)) ?_
    refine LinL.step (s := (.val (.int .i64 (i : Nat)))) [(45, some 0), (40, some 5)] rfl (by kernel_rfl) (op_yes (reads := [(45, some 0)]) 19 40 5 false rfl rfl rfl (op_runs rfl fun σ w' hx hg => ⟨_, runs_fload (ρ := σ.eval) (w := w') (.tmp 45) rfl hg.1 (agg_of (by kernel_rfl) _) (F5.ext hx) rfl, rfl⟩)) ?_
    refine LinL.step (s := (Sp.ptr (.int .u8 (z0 : Nat)))) [(44, some 2), (46, some 0), (40, some 6)] rfl (by kernel_rfl) (op_yes (reads := [(44, some 2), (46, some 0)]) 19 40 6 false rfl rfl rfl (op_runs rfl fun σ w' hx hg => rptr (ρ := σ.eval) (w := w') (.tmp 44) (.tmp 46) rfl hg.1 (B7.out.ext hx) i hg.2.1 hi.out hz0.out)) ?_
    refine LinL.step (s := (.val (.int .u8 (z0 : Nat)))) [(47, some 0), (40, some 7)] rfl (by kernel_rfl) (op_yes (reads := [(47, some 0)]) 19 40 7 false rfl rfl rfl (op_runs rfl fun σ w' hx hg => ⟨_, runs_load (ρ := σ.eval) (w := w') (.tmp 47) rfl Try.underlying5 rfl hg.1, rfl⟩)) ?_
    refine LinL.step (s := (.val (.bool true))) [(43, some 5), (48, some 0), (40, some 8)] rfl (by kernel_rfl) (op_yes (reads := [(43, some 5), (48, some 0)]) 19 40 8 false rfl rfl rfl (op_runs rfl fun σ w' hx hg => ⟨(.bool true), by have h43 : σ.tmps.getD 43 undef = .int .u8 (a1 % 256) := hg.1; have h48 : σ.tmps.getD 48 undef = .int .u8 (z0 : Nat) := hg.2.1; unfold Runs execOp; simp [Act.eval, h43, h48, go_sem, t5], rfl⟩)) ?_
    refine LinL.step (s := (.val (.bool true))) [(40, some 9), (49, some 0)] rfl (by kernel_rfl) (op_runs rfl fun σ w' hx hg => ⟨_, runs_pick_f (ρ := σ.eval) (w := w') (.tmp 40) (.const (.bool true)) (.tmp 49) rfl hg.1 hg.2.1, rfl⟩) ?_
    intro wN hxN
    simp only [Fin', Sp.ptr, List.reverse_cons, List.reverse_nil, List.nil_append, List.cons_append, List.drop_zero, List.take_succ_cons, List.take_zero]
    intro q47 hq47
    simp only [Act.put, List.setIfInBounds_toArray, List.set_cons_zero, List.set_cons_succ]
    replace hX := hX.trans (hxd.trans hxN)
    go_wp2
    go_ret
    exact Keep.intro ⟨rfl, hX⟩
  have t5 : (a1 % 256 == (z0 : Int)) = false := beq_eq_false_iff_ne.2 hE
  obtain ⟨y, hy0⟩ : ∃ y, y = x.set i (a1 % 256).toNat := ⟨_, rfl⟩
  have hyx := hide_ (show y ≠ x from fun e => hE (by
    have h1 : y[i]? = some (a1 % 256).toNat := by rw [hy0, List.getElem?_set_self hi0]
    rw [e, hz00] at h1
    injection h1 with h1; omega))
  have hy256 := hide_ (show ∀ c ∈ y, c < 256 from fun c hc => by
    rw [hy0] at hc
    rcases List.mem_or_eq_of_mem_set hc with h | h
    · exact hx256.out c h
    · omega)
  have hyl := hide_ (show y.length = x.length from by rw [hy0, List.length_set])
  have hy := hide_ hy0
  clear hC hD hb0 hw0 hw1 hE hz00 hy0
  refine wp_region_phx (by kernel_rfl) ?_; intro wd hxd; have F5 := f5.ext hxd; have IB := hide_ (hb.out.ext (hX.trans hxd)); have B7 := hide_ (b7.out.ext hxd)
  refine Ph.rest 0 30 (by kernel_rfl) ?_
  refine LinL.step (s := (.val (.int .i64 0))) [(8, none)] rfl (by kernel_rfl) (op_out 8 (.int .i64 0) rfl (.inl rfl) rfl) ?_
  refine LinL.step (s := (.val (.bool false))) [(21, some 0)] rfl (by kernel_rfl) (op_runs rfl fun σ w' hx hg => ⟨(.bool false), by have h21 : σ.tmps.getD 21 undef = .int .i64 0 := hg.1; unfold Runs execOp; simp [Act.eval, h21, go_sem], rfl⟩) ?_
  refine LinL.step (s := (.val (.bool false))) [(22, some 0)] rfl (by kernel_rfl) (op_copy 22 0 (.val (.bool false)) rfl (.inl rfl) rfl) ?_
  refine LinL.step (s := (.val (vb))) [(0, none), (23, some 0)] rfl (by kernel_rfl) (op_yes (reads := [(0, none)]) 2 23 0 false rfl rfl rfl (op_out 0 (vb) rfl (.inl rfl) rfl)) ?_
  refine LinL.step (s := (.val (.int .i64 (bad.length : Nat)))) [(24, some 0), (23, some 1)] rfl (by kernel_rfl) (op_yes (reads := [(24, some 0)]) 2 23 1 false rfl rfl rfl (op_runs rfl fun σ w' hx hg => ⟨_, runs_leni (ρ := σ.eval) (w := w') (.tmp 24) rfl hg.1 (IB.out.ext hx), rfl⟩)) ?_
  refine LinL.step (s := (.val (.bool false))) [(25, some 0), (23, some 2)] rfl (by kernel_rfl) (op_yes (reads := [(25, some 0)]) 2 23 2 false rfl rfl rfl (op_runs rfl fun σ w' hx hg => ⟨(.bool false), by have h25 : σ.tmps.getD 25 undef = .int .i64 (bad.length : Nat) := hg.1; unfold Runs execOp; simp [Act.eval, h25, go_sem, t2], rfl⟩)) ?_
  refine LinL.step (s := (.val (.bool false))) [(23, some 3), (26, some 0)] rfl (by kernel_rfl) (op_runs rfl fun σ w' hx hg => ⟨_, runs_pick_f (ρ := σ.eval) (w := w') (.tmp 23) (.const (.bool true)) (.tmp 26) rfl hg.1 hg.2.1, rfl⟩) ?_
  refine LinL.step (s := (.val (.bool false))) [(27, some 0)] rfl (by kernel_rfl) (op_copy 27 0 (.val (.bool false)) rfl (.inl rfl) rfl) ?_
  refine LinL.step (s := (.val (.pointer (some ⟨g5, 0, none⟩)))) [(5, none), (28, some 0)] rfl (by kernel_rfl) (op_yes (reads := [(5, none)]) 7 28 0 false rfl rfl rfl (op_runs rfl fun σ w' hx hg => ⟨_, runs_a2 (ρ := σ.eval) (w := w') (.tmp 5) 0 rfl hg.1 (by omega), rfl⟩)) ?_
  refine LinL.step (s := (.val (.int .i64 (i : Nat)))) [(29, some 0), (28, some 1)] rfl (by kernel_rfl) (op_yes (reads := [(29, some 0)]) 7 28 1 false rfl rfl rfl (op_runs rfl fun σ w' hx hg => ⟨_, runs_fload (ρ := σ.eval) (w := w') (.tmp 29) rfl hg.1 (agg_of (by kernel_rfl) _) (F5.ext hx) rfl, rfl⟩)) ?_
  refine LinL.step (s := (.val (.bool false))) [(30, some 0), (28, some 2)] rfl (by kernel_rfl) (op_yes (reads := [(30, some 0)]) 7 28 2 false rfl rfl rfl (op_runs rfl fun σ w' hx hg => ⟨(.bool false), by have h30 : σ.tmps.getD 30 undef = .int .i64 (i : Nat) := hg.1; unfold Runs execOp; simp [Act.eval, h30, go_sem, t3], rfl⟩)) ?_
  refine LinL.step (s := (.val (.bool false))) [(28, some 3), (31, some 0)] rfl (by kernel_rfl) (op_runs rfl fun σ w' hx hg => ⟨_, runs_pick_f (ρ := σ.eval) (w := w') (.tmp 28) (.const (.bool true)) (.tmp 31) rfl hg.1 hg.2.1, rfl⟩) ?_
  refine LinL.step (s := (.val (.bool false))) [(32, some 0)] rfl (by kernel_rfl) (op_copy 32 0 (.val (.bool false)) rfl (.inl rfl) rfl) ?_
  refine LinL.step (s := (.val (.pointer (some ⟨g5, 0, none⟩)))) [(5, none), (33, some 0)] rfl (by kernel_rfl) (op_yes (reads := [(5, none)]) 12 33 0 false rfl rfl rfl (op_runs rfl fun σ w' hx hg => ⟨_, runs_a2 (ρ := σ.eval) (w := w') (.tmp 5) 0 rfl hg.1 (by omega), rfl⟩)) ?_
  refine LinL.step (s := (.val (.int .i64 (i : Nat)))) [(34, some 0), (33, some 1)] rfl (by kernel_rfl) (op_yes (reads := [(34, some 0)]) 12 33 1 false rfl rfl rfl (op_runs rfl fun σ w' hx hg => ⟨_, runs_fload (ρ := σ.eval) (w := w') (.tmp 34) rfl hg.1 (agg_of (by kernel_rfl) _) (F5.ext hx) rfl, rfl⟩)) ?_
  refine LinL.step (s := (.val (v7))) [(7, none), (33, some 2)] rfl (by kernel_rfl) (op_yes (reads := [(7, none)]) 12 33 2 false rfl rfl rfl (op_out 7 (v7) rfl (.inl rfl) rfl)) ?_
  refine LinL.step (s := (.val (.int .i64 (x.length : Nat)))) [(36, some 0), (33, some 3)] rfl (by kernel_rfl) (op_yes (reads := [(36, some 0)]) 12 33 3 false rfl rfl rfl (op_runs rfl fun σ w' hx hg => ⟨_, runs_lenb (ρ := σ.eval) (w := w') (.tmp 36) rfl hg.1 (B7.out.ext hx), rfl⟩)) ?_
  refine LinL.step (s := (.val (.bool false))) [(35, some 2), (37, some 0), (33, some 4)] rfl (by kernel_rfl) (op_yes (reads := [(35, some 2), (37, some 0)]) 12 33 4 false rfl rfl rfl (op_runs rfl fun σ w' hx hg => ⟨(.bool false), by have h35 : σ.tmps.getD 35 undef = .int .i64 (i : Nat) := hg.1; have h37 : σ.tmps.getD 37 undef = .int .i64 (x.length : Nat) := hg.2.1; unfold Runs execOp; simp [Act.eval, h35, h37, go_sem, t4], rfl⟩)) ?_
  refine LinL.step (s := (.val (.bool false))) [(33, some 5), (38, some 0)] rfl (by kernel_rfl) (op_runs rfl fun σ w' hx hg => ⟨_, runs_pick_f (ρ := σ.eval) (w := w') (.tmp 33) (.const (.bool true)) (.tmp 38) rfl hg.1 hg.2.1, rfl⟩) ?_
  refine LinL.step (s := (.val (.bool false))) [(39, some 0)] rfl (by kernel_rfl) (op_copy 39 0 (.val (.bool false)) rfl (.inl rfl) rfl) ?_
  refine LinL.step (s := (.val (.pointer (some ⟨g5, 1, none⟩)))) [(5, none), (40, some 0)] rfl (by kernel_rfl) (op_yes (reads := [(5, none)]) 19 40 0 false rfl rfl rfl (op_runs rfl fun σ w' hx hg => ⟨_, runs_a2 (ρ := σ.eval) (w := w') (.tmp 5) 1 rfl hg.1 (by omega), rfl⟩)) ?_
  refine LinL.step (s := (.val (.int .i64 a1))) [(41, some 0), (40, some 1)] rfl (by kernel_rfl) (op_yes (reads := [(41, some 0)]) 19 40 1 false rfl rfl rfl (op_runs rfl fun σ w' hx hg => ⟨_, runs_fload (ρ := σ.eval) (w := w') (.tmp 41) rfl hg.1 (agg_of (by kernel_rfl) _) (F5.ext hx) rfl, rfl⟩)) ?_
  refine LinL.step (s := (.val (.int .u8 (a1 % 256)))) [(42, some 0), (40, some 2)] rfl (by kernel_rfl) (op_yes (reads := [(42, some 0)]) 19 40 2 false rfl rfl rfl (op_runs rfl fun σ w' hx hg => ⟨_, runs_tou8 (ρ := σ.eval) (w := w') (.tmp 42) rfl hg.1, rfl⟩)) ?_
  refine LinL.step (s := (.val (v7))) [(7, none), (40, some 3)] rfl (by kernel_rfl) (op_yes (reads := [(7, none)]) 19 40 3 false rfl rfl rfl (op_out 7 (v7) rfl (.inl rfl) rfl)) ?_
  refine LinL.step (s := (.val (.pointer (some ⟨g5, 0, none⟩)))) [(5, none), (40, some 4)] rfl (by kernel_rfl) (op_yes (reads := [(5, none)]) 19 40 4 false rfl rfl rfl (op_runs rfl fun σ w' hx hg => ⟨_, runs_a2 (ρ := σ.eval) (w := w') (.tmp 5) 0 rfl hg.1 (by omega), rfl⟩)) ?_
  refine LinL.step (s := (.val (.int .i64 (i : Nat)))) [(45, some 0), (40, some 5)] rfl (by kernel_rfl) (op_yes (reads := [(45, some 0)]) 19 40 5 false rfl rfl rfl (op_runs rfl fun σ w' hx hg => ⟨_, runs_fload (ρ := σ.eval) (w := w') (.tmp 45) rfl hg.1 (agg_of (by kernel_rfl) _) (F5.ext hx) rfl, rfl⟩)) ?_
  refine LinL.step (s := (Sp.ptr (.int .u8 (z0 : Nat)))) [(44, some 2), (46, some 0), (40, some 6)] rfl (by kernel_rfl) (op_yes (reads := [(44, some 2), (46, some 0)]) 19 40 6 false rfl rfl rfl (op_runs rfl fun σ w' hx hg => rptr (ρ := σ.eval) (w := w') (.tmp 44) (.tmp 46) rfl hg.1 (B7.out.ext hx) i hg.2.1 hi.out hz0.out)) ?_
  refine LinL.step (s := (.val (.int .u8 (z0 : Nat)))) [(47, some 0), (40, some 7)] rfl (by kernel_rfl) (op_yes (reads := [(47, some 0)]) 19 40 7 false rfl rfl rfl (op_runs rfl fun σ w' hx hg => ⟨_, runs_load (ρ := σ.eval) (w := w') (.tmp 47) rfl Try.underlying5 rfl hg.1, rfl⟩)) ?_
  refine LinL.step (s := (.val (.bool false))) [(43, some 5), (48, some 0), (40, some 8)] rfl (by kernel_rfl) (op_yes (reads := [(43, some 5), (48, some 0)]) 19 40 8 false rfl rfl rfl (op_runs rfl fun σ w' hx hg => ⟨(.bool false), by have h43 : σ.tmps.getD 43 undef = .int .u8 (a1 % 256) := hg.1; have h48 : σ.tmps.getD 48 undef = .int .u8 (z0 : Nat) := hg.2.1; unfold Runs execOp; simp [Act.eval, h43, h48, go_sem, t5], rfl⟩)) ?_
  refine LinL.step (s := (.val (.bool false))) [(40, some 9), (49, some 0)] rfl (by kernel_rfl) (op_runs rfl fun σ w' hx hg => ⟨_, runs_pick_f (ρ := σ.eval) (w := w') (.tmp 40) (.const (.bool true)) (.tmp 49) rfl hg.1 hg.2.1, rfl⟩) ?_
  intro wN hxN
  simp only [Fin', Sp.ptr, List.reverse_cons, List.reverse_nil, List.nil_append, List.cons_append, List.drop_zero, List.take_succ_cons, List.take_zero]
  intro q47 hq47
  simp only [Act.put, List.setIfInBounds_toArray, List.set_cons_zero, List.set_cons_succ]
  replace hX := hX.trans (hxd.trans hxN)
  replace f5 := f5.ext (hxd.trans hxN)
  replace b7 := hide_ (b7.out.ext (hxd.trans hxN))
  clear hxd hxN F5 IB B7 hq47 n7 s7
  have hxne := hide_ (show u8s x ≠ [] from fun e => by have := hi.out; have h1 := congrArg List.length e; rw [u8s_length] at h1; simp at h1; rw [h1] at this; simp at this)
  have hysl := hide_ (show (u8s x).set i (.int .u8 (a1 % 256)) = u8s y from by
    rw [hy.out]; unfold u8s
    rw [List.map_set]
    congr 1
    show Value.int .u8 (a1 % 256) = .int .u8 (((a1 % 256).toNat : Nat) : Int)
    rw [Int.toNat_of_nonneg (by omega)])
  obtain ⟨gs1, hs10⟩ : ∃ g, GaD.say ⟨bad, [], []⟩ x = g := ⟨_, rfl⟩
  have hsb := GaD.say_bad (g := ⟨bad, [], []⟩) (x := x)
  rw [hs10] at hsb
  obtain ⟨gs2, q, hp10⟩ : ∃ g q, gs1.pass y = (g, q) := ⟨_, _, rfl⟩
  have hpb := GaD.pass_bad (g := gs1) (x := y)
  rw [hp10] at hpb
  have hs1 := hide_ hs10
  have hp1 := hide_ hp10
  have hsaid1 : gs1.said = [x] := hsb.2.1
  have hsaid2 : gs2.said = [x] := hpb.2.1.trans hsaid1
  have hfew1 := hide_ (show gs1.said.length ≤ 1000 ∧ gs1.kn.length ≤ 1000 from ⟨by rw [hsaid1]; simp, by have := hsb.2.2; simp at this; omega⟩)
  have hfew2 := hide_ (show gs2.said.length ≤ 1000 ∧ gs2.kn.length ≤ 1000 from ⟨by rw [hsaid2]; simp, by have := hpb.2.2; have h2 := hsb.2.2; simp at this h2; omega⟩)
  have hp2 := hide_ (show gs2.pass x = (gs2, true) from by rw [GaD.pass_said (by rw [hsaid2]; simp), hrx.out]; rfl)
  have hbd2 : gs2.bad = bad := hpb.1.trans hsb.1
  have hyne := hide_ (show u8s y ≠ [] from fun e => by have := hi.out; have h1 := congrArg List.length e; rw [u8s_length, hyl.out] at h1; simp at h1; rw [h1] at this; simp at this)
  have c1 : True := trivial
  have d1 : True := trivial
  have c2 : True := trivial
  have d2 : True := trivial
  have c3 : True := trivial
  have d3 : True := trivial
  have c4 : True := trivial
  have d4 : True := trivial
  clear hrx hsb hpb hp10 hs10 hy t2 t3 t4 t5 hxe hright
  have hway : (rdMsg y = none ∧ q = false) ∨ ∃ k, rdMsg y = some k ∧ (q = false ∨ (q = true ∧ decide (k.fm ∈ gs2.bad) = true)) := by
    cases hry : rdMsg y with
    | none =>
      have := hp1.out; rw [GaD.pass_none hry] at this
      injection this with _ h2
      exact .inl ⟨rfl, h2.symm⟩
    | some k =>
      refine .inr ⟨k, rfl, ?_⟩
      have h := hp1.out
      rw [GaD.pass_some hry, if_neg (by rw [hsaid1, List.mem_singleton]; exact hyx.out)] at h
      by_cases hb : k.fm ∈ gs1.bad
      · cases q with
        | false => exact .inl rfl
        | true =>
          refine .inr ⟨rfl, decide_eq_true ?_⟩
          have h9 := (GaD.pass_bad (g := gs1) (x := y)).1
          rw [hp1.out] at h9
          rw [h9]; exact hb
      · rw [if_neg hb] at h
        injection h with _ h2
        exact .inl h2.symm
  clear hsaid1 hsaid2 hbd2 hyx
  rcases hway with ⟨hry0, rfl⟩ | ⟨k, hry0, rfl | ⟨rfl, hbd0⟩⟩
  · have hry := hide_ hry0
    clear hry0
    go_wp2_with ((first
      | go_big_skip
      | (refine w_empt Try.elI rfl rfl ?_; intro ge we hge hx oe; replace oe := hide_ oe; clear hge; (try replace f5 := f5.ext hx); (try replace b7 := hide_ (b7.out.ext hx)); (try replace ib := hide_ (ib.out.ext hx)); (try replace hGl := hide_ (fun k hk => Nat.lt_of_lt_of_le (hGl.out k hk) hx.size)); (try replace hG0 := hide_ (hG0.out.ext hx)); (try replace v10o := hide_ (show OwnB _ _ _ _ from own_ext v10o.out hx)); (try replace v10b := hide_ (v10b.out.ext hx)); (try replace f11 := f11.ext hx); (try replace ou := hide_ (ou.out.ext hx)); replace hX := hX.trans hx; clear hx)
      | (refine w_appE Try.elI _ _ rfl rfl rfl rfl oe.out (ys := i64s bad) (hb.out.ext hX) (i64s_one _) (by rw [i64s_length]; have := hbl.out; omega) ?_; intro vi wf hx on; have ib := hide_ (show Ints wf vi bad from Sl.of_own on); clear on oe; (try replace f5 := f5.ext hx); (try replace b7 := hide_ (b7.out.ext hx)); (try replace ib := hide_ (ib.out.ext hx)); (try replace hGl := hide_ (fun k hk => Nat.lt_of_lt_of_le (hGl.out k hk) hx.size)); (try replace hG0 := hide_ (hG0.out.ext hx)); (try replace v10o := hide_ (show OwnB _ _ _ _ from own_ext v10o.out hx)); (try replace v10b := hide_ (v10b.out.ext hx)); (try replace f11 := f11.ext hx); (try replace ou := hide_ (ou.out.ext hx)); replace hX := hX.trans hx; clear hx)
      | (go_at_call 8; refine (GNew_any ib.out (by have := hbl.out; omega)).mono ?_; rintro e w2 ⟨p, rfl, g1, g2, vgb, G0, hG00, hx, hnew⟩; have hG0 := hide_ hG00; have hGl := hide_ (fun k (hk : G0 k) => (hnew k hk).2); have hgW := hide_ (show ∀ k, gm g1 g2 k → w.heap.size ≤ k from fun k hk => Nat.le_trans hX.size (hnew k (hk.elim (fun e => e ▸ hG00.inG.2.1) fun e => e ▸ hG00.inG.2.2.1)).1); clear hG00 hnew ib; replace f5 := f5.ext hx; replace b7 := hide_ (b7.out.ext hx); replace hX := hX.trans hx; clear hx)
      | (have _t := c1; refine w_empt Try.elB rfl rfl ?_; intro ge we hge hx oe; replace oe := hide_ oe; (try replace f5 := f5.ext hx); (try replace b7 := hide_ (b7.out.ext hx)); (try replace ib := hide_ (ib.out.ext hx)); (try replace hGl := hide_ (fun k hk => Nat.lt_of_lt_of_le (hGl.out k hk) hx.size)); (try replace hG0 := hide_ (hG0.out.ext hx)); (try replace v10o := hide_ (show OwnB _ _ _ _ from own_ext v10o.out hx)); (try replace v10b := hide_ (v10b.out.ext hx)); (try replace f11 := f11.ext hx); (try replace ou := hide_ (ou.out.ext hx)); clear c1 _t hge; replace hX := hX.trans hx; clear hx)
      | (have _t := d1; refine w_appE Try.elB _ _ rfl rfl rfl rfl oe.out (ys := u8s x) (b7.out.ext (Ext.refl _)) (u8s_one _) (by rw [u8s_length]; have := hxl.out; omega) ?_; intro v8 wf hx on; have v8b := hide_ (show Byt wf v8 x from Sl.of_own on); have v8o := hide_ (show OwnB ge wf v8 x from on); have v8n := hide_ (fun k hk => (own_block_lt (g := k) on hk).2); have v8z := hide_ (Nat.le_refl wf.heap.size); (try replace f5 := f5.ext hx); (try replace b7 := hide_ (b7.out.ext hx)); (try replace ib := hide_ (ib.out.ext hx)); (try replace hGl := hide_ (fun k hk => Nat.lt_of_lt_of_le (hGl.out k hk) hx.size)); (try replace hG0 := hide_ (hG0.out.ext hx)); (try replace v10o := hide_ (show OwnB _ _ _ _ from own_ext v10o.out hx)); (try replace v10b := hide_ (v10b.out.ext hx)); (try replace f11 := f11.ext hx); (try replace ou := hide_ (ou.out.ext hx)); clear d1 _t on oe; replace hX := hX.trans hx; clear hx)
      | (go_at_call 12; refine (GSay_any hG0.out hx256.out (Nat.le_trans hxl.out (by omega)) v8b.out (by simp)).mono ?_; rintro e w6 ⟨rfl, G', hG', hN⟩; rw [hs1.out] at hG'; clear v8b v8o v8n v8z; have hM := hG0.out.maps; replace f5 := f5.mapmod hN.mod hM; replace b7 := hide_ (Sl.mapmod b7.out hN.mod hM); replace hX := hN.mod.after hX hgW.out; have hGl' := hide_ (fun k (hk : G' k) => (hN.sub k hk).elim (fun h => Nat.lt_of_lt_of_le (hGl.out k h) hN.mod.size) fun h => h.2); clear hGl hG0 hN hM G0; obtain ⟨G0, hGe0⟩ : ∃ H, H = G' := ⟨_, rfl⟩; rw [← hGe0] at hG' hGl'; have hG0 := hide_ (show GaW G0 _ p g1 g2 vgb gs1 from hG'); have hGl := hGl'; clear hG' hGl' hGe0 G')
      | (have _t := c2; refine w_empt Try.elB rfl rfl ?_; intro ge we hge hx oe; replace oe := hide_ oe; have h5e := hide_ (Nat.lt_of_lt_of_le f5.lt hge); have h7e := hide_ (fun k hk => Nat.lt_of_lt_of_le (Sl.block_lt b7.out hxne.out (k := k) hk) hge); have hGe := hide_ (fun k hk => Nat.lt_of_lt_of_le (hGl.out k hk) hge); have hXe := hide_ (Nat.le_trans hX.size hge); obtain ⟨gE, hgE⟩ : ∃ z, z = ge := ⟨_, rfl⟩; (try replace f5 := f5.ext hx); (try replace b7 := hide_ (b7.out.ext hx)); (try replace ib := hide_ (ib.out.ext hx)); (try replace hGl := hide_ (fun k hk => Nat.lt_of_lt_of_le (hGl.out k hk) hx.size)); (try replace hG0 := hide_ (hG0.out.ext hx)); (try replace v10oo := hide_ (show OwnB _ _ _ _ from own_ext v10o.out hx)); (try replace v10b := hide_ (v10b.out.ext hx)); (try replace f11 := f11.ext hx); (try replace ou := hide_ (ou.out.ext hx)); clear c2 _t hge hgE; replace hX := hX.trans hx; clear hx)
      | (have _t := d2; refine w_appE Try.elB _ _ rfl rfl rfl rfl oe.out (ys := u8s x) (b7.out.ext (Ext.refl _)) (u8s_one _) (by rw [u8s_length]; have := hxl.out; omega) ?_; intro v10 wf hx on; have v10b := hide_ (show Byt wf v10 x from Sl.of_own on); have v10o := hide_ (show OwnB ge wf v10 x from on); have v10n := hide_ (fun k hk => (own_block_lt (g := k) on hk).2); have v10z := hide_ (Nat.le_refl wf.heap.size); (try replace f5 := f5.ext hx); (try replace b7 := hide_ (b7.out.ext hx)); (try replace ib := hide_ (ib.out.ext hx)); (try replace hGl := hide_ (fun k hk => Nat.lt_of_lt_of_le (hGl.out k hk) hx.size)); (try replace hG0 := hide_ (hG0.out.ext hx)); (try replace v10oo := hide_ (show OwnB _ _ _ _ from own_ext v10o.out hx)); (try replace v10b := hide_ (v10b.out.ext hx)); (try replace f11 := f11.ext hx); (try replace ou := hide_ (ou.out.ext hx)); clear d2 _t on oe; replace hX := hX.trans hx; clear hx)
      | ((with_reducible refine at_idx ?_); refine w_arraddr Try.ar2 _ _ 0 rfl rfl rfl rfl (by omega) ?_)
      | ((with_reducible refine at_idx ?_); refine w_arraddr Try.ar2 _ _ 1 rfl rfl rfl rfl (by omega) ?_)
      | ((with_reducible refine at_load ?_); (try refine w_yes _ _ _ rfl rfl rfl ?_); refine w_fload _ rfl rfl rfl f5 rfl (agg_of (by kernel_rfl)) ?_)
      | (refine wpList_runs rfl (runs_tou8 _ rfl rfl) ?_)
      | ((with_reducible refine at_idx ?_); refine w_oidx Try.elB _ _ rfl rfl rfl v10o.out rfl (by rw [u8s_length]; exact hi.out) ?_; intro gy hgy hgy1 hgy2)
      | ((with_reducible refine at_store ?_); refine w_ostore Try.elB _ _ (u := .int .u8 (a1 % 256)) rfl rfl rfl rfl rfl rfl rfl v10o.out hgy (by rw [u8s_length]; exact hi.out) ?_; intro w9 hb9 o9; rw [hysl.out] at o9; replace v10b := hide_ (show Byt w9 v10 y from Sl.of_own o9); replace b7 := hide_ (Sl.mod b7.out (Below.toMod hb9) (fun k hk e => by have := h7e.out k hk; omega)); replace hGl := hide_ (fun k hk => Nat.lt_of_lt_of_le (hGl.out k hk) hb9.size); replace hG0 := hide_ (hG0.out.mod (Below.toMod hb9) (fun k hk e => by have := hGe.out k hk; omega)); replace hX := (Below.toMod hb9).after hX (fun i e => Nat.le_trans hXe.out e); clear hb9 o9 v10o v10n v10z h5e h7e hGe hXe hgy hgy1 hgy2 f5)
      | (go_at_call 16; refine (refMRead_any hy256.out (by rw [hyl.out]; have := hxl.out; omega) v10b.out).mono ?_; rintro e w22 ⟨u9, rfl, hx, ou0⟩; rw [hry.out] at ou0 ⊢; rw [show omE none = 121 from rfl, show mOr none = MsgD.zero from rfl]; have ou := hide_ (show OwnT _ w22 u9 MsgD.zero.bk.txs from ou0); clear ou0; replace b7 := hide_ (b7.out.ext hx); replace v10b := hide_ (v10b.out.ext hx); replace hGl := hide_ (fun k hk => Nat.lt_of_lt_of_le (hGl.out k hk) hx.size); replace hG0 := hide_ (hG0.out.ext hx); replace hX := hX.trans hx; clear hx)
      | ((with_reducible refine at_alloc ?_); refine w_agalloc Try.agMsg rfl rfl ?_; intro g11 w23 hg11 hx f11; have n11 := hide_ (show (∀ k, u9.ownBlock = some k → ¬ k = g11) ∧ (∀ k, v7.ownBlock = some k → ¬ k = g11) ∧ (∀ k, v10.ownBlock = some k → ¬ k = g11) ∧ ∀ k, G0 k → ¬ k = g11 from ⟨fun k hk e => by have := ou.out.lt hk; omega, fun k hk e => by have := Sl.block_lt b7.out hxne.out hk; omega, fun k hk e => by have := Sl.block_lt v10b.out hyne.out hk; omega, fun k hk e => by have := hGl.out k hk; omega⟩); have hg11w := hide_ (Nat.le_trans hX.size hg11); replace ou := hide_ (ou.out.ext hx); replace b7 := hide_ (b7.out.ext hx); replace v10b := hide_ (v10b.out.ext hx); replace hGl := hide_ (fun k hk => Nat.lt_of_lt_of_le (hGl.out k hk) hx.size); replace hG0 := hide_ (hG0.out.ext hx); replace hX := hX.trans hx; clear hx)
      | ((with_reducible refine at_store ?_); refine w_agput Try.agMsg (us := mRow MsgD.zero u9) _ _ rfl rfl rfl rfl rfl f11 rfl rfl (m_one ou.out.recs.one') ?_; intro w24 hm24 f25; replace f11 := f25; replace b7 := hide_ (Sl.mod b7.out hm24 n11.out.2.1); replace v10b := hide_ (Sl.mod v10b.out hm24 n11.out.2.2.1); replace hGl := hide_ (fun k hk => Nat.lt_of_lt_of_le (hGl.out k hk) hm24.size); replace hG0 := hide_ (hG0.out.mod hm24 n11.out.2.2.2); replace hX := hm24.after hX (fun i e => e ▸ hg11w.out); clear hm24 f25 n11 hg11w ou)
      | (have _t := c3; refine w_empt Try.elB rfl rfl ?_; intro ge we hge hx oe; replace oe := hide_ oe; (try replace f5 := f5.ext hx); (try replace b7 := hide_ (b7.out.ext hx)); (try replace ib := hide_ (ib.out.ext hx)); (try replace hGl := hide_ (fun k hk => Nat.lt_of_lt_of_le (hGl.out k hk) hx.size)); (try replace hG0 := hide_ (hG0.out.ext hx)); (try replace v10o := hide_ (show OwnB _ _ _ _ from own_ext v10o.out hx)); (try replace v10b := hide_ (v10b.out.ext hx)); (try replace f11 := f11.ext hx); (try replace ou := hide_ (ou.out.ext hx)); clear c3 _t hge; replace hX := hX.trans hx; clear hx)
      | (have _t := d3; refine w_appE Try.elB _ _ rfl rfl rfl rfl oe.out (ys := u8s y) (v10b.out.ext (Ext.refl _)) (u8s_one _) (by rw [u8s_length]; rw [hyl.out]; have := hxl.out; omega) ?_; intro v12 wf hx on; have v12b := hide_ (show Byt wf v12 y from Sl.of_own on); have v12o := hide_ (show OwnB ge wf v12 y from on); have v12n := hide_ (fun k hk => (own_block_lt (g := k) on hk).2); have v12z := hide_ (Nat.le_refl wf.heap.size); (try replace f5 := f5.ext hx); (try replace b7 := hide_ (b7.out.ext hx)); (try replace ib := hide_ (ib.out.ext hx)); (try replace hGl := hide_ (fun k hk => Nat.lt_of_lt_of_le (hGl.out k hk) hx.size)); (try replace hG0 := hide_ (hG0.out.ext hx)); (try replace v10o := hide_ (show OwnB _ _ _ _ from own_ext v10o.out hx)); (try replace v10b := hide_ (v10b.out.ext hx)); (try replace f11 := f11.ext hx); (try replace ou := hide_ (ou.out.ext hx)); clear d3 _t on oe; replace hX := hX.trans hx; clear hx)
      | (go_at_call 10; refine (GPass_any hG0.out hy256.out (by rw [hyl.out]; have := hxl.out; omega) v12b.out hfew1.out).mono ?_; rintro e w6 ⟨rfl, G', hG', hN⟩; rw [hp1.out] at hG' ⊢; clear v12b v12o v12n v12z; have hM := hG0.out.maps; replace f11 := f11.mapmod hN.mod hM; replace b7 := hide_ (Sl.mapmod b7.out hN.mod hM); replace v10b := hide_ (Sl.mapmod v10b.out hN.mod hM); replace hX := hN.mod.after hX hgW.out; have hGl' := hide_ (fun k (hk : G' k) => (hN.sub k hk).elim (fun h => Nat.lt_of_lt_of_le (hGl.out k h) hN.mod.size) fun h => h.2); clear hGl hG0 hN hM G0; obtain ⟨G0, hGe0⟩ : ∃ H, H = G' := ⟨_, rfl⟩; rw [← hGe0] at hG' hGl'; have hG0 := hide_ (show GaW G0 _ p g1 g2 vgb gs2 from hG'); have hGl := hGl'; clear hG' hGl' hGe0 G')
      | (have _t := c4; refine w_empt Try.elB rfl rfl ?_; intro ge we hge hx oe; replace oe := hide_ oe; (try replace f5 := f5.ext hx); (try replace b7 := hide_ (b7.out.ext hx)); (try replace ib := hide_ (ib.out.ext hx)); (try replace hGl := hide_ (fun k hk => Nat.lt_of_lt_of_le (hGl.out k hk) hx.size)); (try replace hG0 := hide_ (hG0.out.ext hx)); (try replace v10o := hide_ (show OwnB _ _ _ _ from own_ext v10o.out hx)); (try replace v10b := hide_ (v10b.out.ext hx)); (try replace f11 := f11.ext hx); (try replace ou := hide_ (ou.out.ext hx)); clear c4 _t hge; replace hX := hX.trans hx; clear hx)
      | (have _t := d4; refine w_appE Try.elB _ _ rfl rfl rfl rfl oe.out (ys := u8s x) (b7.out.ext (Ext.refl _)) (u8s_one _) (by rw [u8s_length]; have := hxl.out; omega) ?_; intro v13 wf hx on; have v13b := hide_ (show Byt wf v13 x from Sl.of_own on); have v13o := hide_ (show OwnB ge wf v13 x from on); have v13n := hide_ (fun k hk => (own_block_lt (g := k) on hk).2); have v13z := hide_ (Nat.le_refl wf.heap.size); (try replace f5 := f5.ext hx); (try replace b7 := hide_ (b7.out.ext hx)); (try replace ib := hide_ (ib.out.ext hx)); (try replace hGl := hide_ (fun k hk => Nat.lt_of_lt_of_le (hGl.out k hk) hx.size)); (try replace hG0 := hide_ (hG0.out.ext hx)); (try replace v10o := hide_ (show OwnB _ _ _ _ from own_ext v10o.out hx)); (try replace v10b := hide_ (v10b.out.ext hx)); (try replace f11 := f11.ext hx); (try replace ou := hide_ (ou.out.ext hx)); clear d4 _t on oe; replace hX := hX.trans hx; clear hx)
      | (go_at_call 10; refine (GPass_any hG0.out hx256.out (Nat.le_trans hxl.out (by omega)) v13b.out hfew2.out).mono ?_; rintro e w6 ⟨rfl, G', hG', hN⟩; rw [hp2.out] at hG' ⊢; clear v13b v13o v13n v13z; have hM := hG0.out.maps; replace f11 := f11.mapmod hN.mod hM; replace b7 := hide_ (Sl.mapmod b7.out hN.mod hM); replace v10b := hide_ (Sl.mapmod v10b.out hN.mod hM); replace hX := hN.mod.after hX hgW.out; have hGl' := hide_ (fun k (hk : G' k) => (hN.sub k hk).elim (fun h => Nat.lt_of_lt_of_le (hGl.out k h) hN.mod.size) fun h => h.2); clear hGl hG0 hN hM G0; obtain ⟨G0, hGe0⟩ : ∃ H, H = G' := ⟨_, rfl⟩; rw [← hGe0] at hG' hGl'; have hG0 := hide_ (show GaW G0 _ p g1 g2 vgb gs2 from hG'); have hGl := hGl'; clear hG' hGl' hGe0 G')
      | ((with_reducible refine at_field ?_); (try refine w_yes _ _ _ rfl rfl rfl ?_); refine w_mfield _ _ _ rfl rfl rfl (by omega) ?_)
      | ((with_reducible refine at_load ?_); (try refine w_yes _ _ _ rfl rfl rfl ?_); refine w_fload _ rfl rfl rfl f11 rfl (agg_of (by kernel_rfl)) ?_)
      | fail) <;> (try simp only [Act.put, List.setIfInBounds_toArray, List.set_cons_zero, List.set_cons_succ]))
    go_ret
    exact Keep.intro ⟨rfl, hX⟩
  · have hry := hide_ hry0
    clear hry0
    go_wp2_with ((first
      | go_big_skip
      | (refine w_empt Try.elI rfl rfl ?_; intro ge we hge hx oe; replace oe := hide_ oe; clear hge; (try replace f5 := f5.ext hx); (try replace b7 := hide_ (b7.out.ext hx)); (try replace ib := hide_ (ib.out.ext hx)); (try replace hGl := hide_ (fun k hk => Nat.lt_of_lt_of_le (hGl.out k hk) hx.size)); (try replace hG0 := hide_ (hG0.out.ext hx)); (try replace v10o := hide_ (show OwnB _ _ _ _ from own_ext v10o.out hx)); (try replace v10b := hide_ (v10b.out.ext hx)); (try replace f11 := f11.ext hx); (try replace ou := hide_ (ou.out.ext hx)); replace hX := hX.trans hx; clear hx)
      | (refine w_appE Try.elI _ _ rfl rfl rfl rfl oe.out (ys := i64s bad) (hb.out.ext hX) (i64s_one _) (by rw [i64s_length]; have := hbl.out; omega) ?_; intro vi wf hx on; have ib := hide_ (show Ints wf vi bad from Sl.of_own on); clear on oe; (try replace f5 := f5.ext hx); (try replace b7 := hide_ (b7.out.ext hx)); (try replace ib := hide_ (ib.out.ext hx)); (try replace hGl := hide_ (fun k hk => Nat.lt_of_lt_of_le (hGl.out k hk) hx.size)); (try replace hG0 := hide_ (hG0.out.ext hx)); (try replace v10o := hide_ (show OwnB _ _ _ _ from own_ext v10o.out hx)); (try replace v10b := hide_ (v10b.out.ext hx)); (try replace f11 := f11.ext hx); (try replace ou := hide_ (ou.out.ext hx)); replace hX := hX.trans hx; clear hx)
      | (go_at_call 8; refine (GNew_any ib.out (by have := hbl.out; omega)).mono ?_; rintro e w2 ⟨p, rfl, g1, g2, vgb, G0, hG00, hx, hnew⟩; have hG0 := hide_ hG00; have hGl := hide_ (fun k (hk : G0 k) => (hnew k hk).2); have hgW := hide_ (show ∀ k, gm g1 g2 k → w.heap.size ≤ k from fun k hk => Nat.le_trans hX.size (hnew k (hk.elim (fun e => e ▸ hG00.inG.2.1) fun e => e ▸ hG00.inG.2.2.1)).1); clear hG00 hnew ib; replace f5 := f5.ext hx; replace b7 := hide_ (b7.out.ext hx); replace hX := hX.trans hx; clear hx)
      | (have _t := c1; refine w_empt Try.elB rfl rfl ?_; intro ge we hge hx oe; replace oe := hide_ oe; (try replace f5 := f5.ext hx); (try replace b7 := hide_ (b7.out.ext hx)); (try replace ib := hide_ (ib.out.ext hx)); (try replace hGl := hide_ (fun k hk => Nat.lt_of_lt_of_le (hGl.out k hk) hx.size)); (try replace hG0 := hide_ (hG0.out.ext hx)); (try replace v10o := hide_ (show OwnB _ _ _ _ from own_ext v10o.out hx)); (try replace v10b := hide_ (v10b.out.ext hx)); (try replace f11 := f11.ext hx); (try replace ou := hide_ (ou.out.ext hx)); clear c1 _t hge; replace hX := hX.trans hx; clear hx)
      | (have _t := d1; refine w_appE Try.elB _ _ rfl rfl rfl rfl oe.out (ys := u8s x) (b7.out.ext (Ext.refl _)) (u8s_one _) (by rw [u8s_length]; have := hxl.out; omega) ?_; intro v8 wf hx on; have v8b := hide_ (show Byt wf v8 x from Sl.of_own on); have v8o := hide_ (show OwnB ge wf v8 x from on); have v8n := hide_ (fun k hk => (own_block_lt (g := k) on hk).2); have v8z := hide_ (Nat.le_refl wf.heap.size); (try replace f5 := f5.ext hx); (try replace b7 := hide_ (b7.out.ext hx)); (try replace ib := hide_ (ib.out.ext hx)); (try replace hGl := hide_ (fun k hk => Nat.lt_of_lt_of_le (hGl.out k hk) hx.size)); (try replace hG0 := hide_ (hG0.out.ext hx)); (try replace v10o := hide_ (show OwnB _ _ _ _ from own_ext v10o.out hx)); (try replace v10b := hide_ (v10b.out.ext hx)); (try replace f11 := f11.ext hx); (try replace ou := hide_ (ou.out.ext hx)); clear d1 _t on oe; replace hX := hX.trans hx; clear hx)
      | (go_at_call 12; refine (GSay_any hG0.out hx256.out (Nat.le_trans hxl.out (by omega)) v8b.out (by simp)).mono ?_; rintro e w6 ⟨rfl, G', hG', hN⟩; rw [hs1.out] at hG'; clear v8b v8o v8n v8z; have hM := hG0.out.maps; replace f5 := f5.mapmod hN.mod hM; replace b7 := hide_ (Sl.mapmod b7.out hN.mod hM); replace hX := hN.mod.after hX hgW.out; have hGl' := hide_ (fun k (hk : G' k) => (hN.sub k hk).elim (fun h => Nat.lt_of_lt_of_le (hGl.out k h) hN.mod.size) fun h => h.2); clear hGl hG0 hN hM G0; obtain ⟨G0, hGe0⟩ : ∃ H, H = G' := ⟨_, rfl⟩; rw [← hGe0] at hG' hGl'; have hG0 := hide_ (show GaW G0 _ p g1 g2 vgb gs1 from hG'); have hGl := hGl'; clear hG' hGl' hGe0 G')
      | (have _t := c2; refine w_empt Try.elB rfl rfl ?_; intro ge we hge hx oe; replace oe := hide_ oe; have h5e := hide_ (Nat.lt_of_lt_of_le f5.lt hge); have h7e := hide_ (fun k hk => Nat.lt_of_lt_of_le (Sl.block_lt b7.out hxne.out (k := k) hk) hge); have hGe := hide_ (fun k hk => Nat.lt_of_lt_of_le (hGl.out k hk) hge); have hXe := hide_ (Nat.le_trans hX.size hge); obtain ⟨gE, hgE⟩ : ∃ z, z = ge := ⟨_, rfl⟩; (try replace f5 := f5.ext hx); (try replace b7 := hide_ (b7.out.ext hx)); (try replace ib := hide_ (ib.out.ext hx)); (try replace hGl := hide_ (fun k hk => Nat.lt_of_lt_of_le (hGl.out k hk) hx.size)); (try replace hG0 := hide_ (hG0.out.ext hx)); (try replace v10oo := hide_ (show OwnB _ _ _ _ from own_ext v10o.out hx)); (try replace v10b := hide_ (v10b.out.ext hx)); (try replace f11 := f11.ext hx); (try replace ou := hide_ (ou.out.ext hx)); clear c2 _t hge hgE; replace hX := hX.trans hx; clear hx)
      | (have _t := d2; refine w_appE Try.elB _ _ rfl rfl rfl rfl oe.out (ys := u8s x) (b7.out.ext (Ext.refl _)) (u8s_one _) (by rw [u8s_length]; have := hxl.out; omega) ?_; intro v10 wf hx on; have v10b := hide_ (show Byt wf v10 x from Sl.of_own on); have v10o := hide_ (show OwnB ge wf v10 x from on); have v10n := hide_ (fun k hk => (own_block_lt (g := k) on hk).2); have v10z := hide_ (Nat.le_refl wf.heap.size); (try replace f5 := f5.ext hx); (try replace b7 := hide_ (b7.out.ext hx)); (try replace ib := hide_ (ib.out.ext hx)); (try replace hGl := hide_ (fun k hk => Nat.lt_of_lt_of_le (hGl.out k hk) hx.size)); (try replace hG0 := hide_ (hG0.out.ext hx)); (try replace v10oo := hide_ (show OwnB _ _ _ _ from own_ext v10o.out hx)); (try replace v10b := hide_ (v10b.out.ext hx)); (try replace f11 := f11.ext hx); (try replace ou := hide_ (ou.out.ext hx)); clear d2 _t on oe; replace hX := hX.trans hx; clear hx)
      | ((with_reducible refine at_idx ?_); refine w_arraddr Try.ar2 _ _ 0 rfl rfl rfl rfl (by omega) ?_)
      | ((with_reducible refine at_idx ?_); refine w_arraddr Try.ar2 _ _ 1 rfl rfl rfl rfl (by omega) ?_)
      | ((with_reducible refine at_load ?_); (try refine w_yes _ _ _ rfl rfl rfl ?_); refine w_fload _ rfl rfl rfl f5 rfl (agg_of (by kernel_rfl)) ?_)
      | (refine wpList_runs rfl (runs_tou8 _ rfl rfl) ?_)
      | ((with_reducible refine at_idx ?_); refine w_oidx Try.elB _ _ rfl rfl rfl v10o.out rfl (by rw [u8s_length]; exact hi.out) ?_; intro gy hgy hgy1 hgy2)
      | ((with_reducible refine at_store ?_); refine w_ostore Try.elB _ _ (u := .int .u8 (a1 % 256)) rfl rfl rfl rfl rfl rfl rfl v10o.out hgy (by rw [u8s_length]; exact hi.out) ?_; intro w9 hb9 o9; rw [hysl.out] at o9; replace v10b := hide_ (show Byt w9 v10 y from Sl.of_own o9); replace b7 := hide_ (Sl.mod b7.out (Below.toMod hb9) (fun k hk e => by have := h7e.out k hk; omega)); replace hGl := hide_ (fun k hk => Nat.lt_of_lt_of_le (hGl.out k hk) hb9.size); replace hG0 := hide_ (hG0.out.mod (Below.toMod hb9) (fun k hk e => by have := hGe.out k hk; omega)); replace hX := (Below.toMod hb9).after hX (fun i e => Nat.le_trans hXe.out e); clear hb9 o9 v10o v10n v10z h5e h7e hGe hXe hgy hgy1 hgy2 f5)
      | (go_at_call 16; refine (refMRead_any hy256.out (by rw [hyl.out]; have := hxl.out; omega) v10b.out).mono ?_; rintro e w22 ⟨u9, rfl, hx, ou0⟩; rw [hry.out] at ou0 ⊢; rw [show omE (some k) = 0 from rfl, show mOr (some k) = k from rfl]; have ou := hide_ (show OwnT _ w22 u9 k.bk.txs from ou0); clear ou0; replace b7 := hide_ (b7.out.ext hx); replace v10b := hide_ (v10b.out.ext hx); replace hGl := hide_ (fun k hk => Nat.lt_of_lt_of_le (hGl.out k hk) hx.size); replace hG0 := hide_ (hG0.out.ext hx); replace hX := hX.trans hx; clear hx)
      | ((with_reducible refine at_alloc ?_); refine w_agalloc Try.agMsg rfl rfl ?_; intro g11 w23 hg11 hx f11; have n11 := hide_ (show (∀ k, u9.ownBlock = some k → ¬ k = g11) ∧ (∀ k, v7.ownBlock = some k → ¬ k = g11) ∧ (∀ k, v10.ownBlock = some k → ¬ k = g11) ∧ ∀ k, G0 k → ¬ k = g11 from ⟨fun k hk e => by have := ou.out.lt hk; omega, fun k hk e => by have := Sl.block_lt b7.out hxne.out hk; omega, fun k hk e => by have := Sl.block_lt v10b.out hyne.out hk; omega, fun k hk e => by have := hGl.out k hk; omega⟩); have hg11w := hide_ (Nat.le_trans hX.size hg11); replace ou := hide_ (ou.out.ext hx); replace b7 := hide_ (b7.out.ext hx); replace v10b := hide_ (v10b.out.ext hx); replace hGl := hide_ (fun k hk => Nat.lt_of_lt_of_le (hGl.out k hk) hx.size); replace hG0 := hide_ (hG0.out.ext hx); replace hX := hX.trans hx; clear hx)
      | ((with_reducible refine at_store ?_); refine w_agput Try.agMsg (us := mRow k u9) _ _ rfl rfl rfl rfl rfl f11 rfl rfl (m_one ou.out.recs.one') ?_; intro w24 hm24 f25; replace f11 := f25; replace b7 := hide_ (Sl.mod b7.out hm24 n11.out.2.1); replace v10b := hide_ (Sl.mod v10b.out hm24 n11.out.2.2.1); replace hGl := hide_ (fun k hk => Nat.lt_of_lt_of_le (hGl.out k hk) hm24.size); replace hG0 := hide_ (hG0.out.mod hm24 n11.out.2.2.2); replace hX := hm24.after hX (fun i e => e ▸ hg11w.out); clear hm24 f25 n11 hg11w ou)
      | (have _t := c3; refine w_empt Try.elB rfl rfl ?_; intro ge we hge hx oe; replace oe := hide_ oe; (try replace f5 := f5.ext hx); (try replace b7 := hide_ (b7.out.ext hx)); (try replace ib := hide_ (ib.out.ext hx)); (try replace hGl := hide_ (fun k hk => Nat.lt_of_lt_of_le (hGl.out k hk) hx.size)); (try replace hG0 := hide_ (hG0.out.ext hx)); (try replace v10o := hide_ (show OwnB _ _ _ _ from own_ext v10o.out hx)); (try replace v10b := hide_ (v10b.out.ext hx)); (try replace f11 := f11.ext hx); (try replace ou := hide_ (ou.out.ext hx)); clear c3 _t hge; replace hX := hX.trans hx; clear hx)
      | (have _t := d3; refine w_appE Try.elB _ _ rfl rfl rfl rfl oe.out (ys := u8s y) (v10b.out.ext (Ext.refl _)) (u8s_one _) (by rw [u8s_length]; rw [hyl.out]; have := hxl.out; omega) ?_; intro v12 wf hx on; have v12b := hide_ (show Byt wf v12 y from Sl.of_own on); have v12o := hide_ (show OwnB ge wf v12 y from on); have v12n := hide_ (fun k hk => (own_block_lt (g := k) on hk).2); have v12z := hide_ (Nat.le_refl wf.heap.size); (try replace f5 := f5.ext hx); (try replace b7 := hide_ (b7.out.ext hx)); (try replace ib := hide_ (ib.out.ext hx)); (try replace hGl := hide_ (fun k hk => Nat.lt_of_lt_of_le (hGl.out k hk) hx.size)); (try replace hG0 := hide_ (hG0.out.ext hx)); (try replace v10o := hide_ (show OwnB _ _ _ _ from own_ext v10o.out hx)); (try replace v10b := hide_ (v10b.out.ext hx)); (try replace f11 := f11.ext hx); (try replace ou := hide_ (ou.out.ext hx)); clear d3 _t on oe; replace hX := hX.trans hx; clear hx)
      | (go_at_call 10; refine (GPass_any hG0.out hy256.out (by rw [hyl.out]; have := hxl.out; omega) v12b.out hfew1.out).mono ?_; rintro e w6 ⟨rfl, G', hG', hN⟩; rw [hp1.out] at hG' ⊢; clear v12b v12o v12n v12z; have hM := hG0.out.maps; replace f11 := f11.mapmod hN.mod hM; replace b7 := hide_ (Sl.mapmod b7.out hN.mod hM); replace v10b := hide_ (Sl.mapmod v10b.out hN.mod hM); replace hX := hN.mod.after hX hgW.out; have hGl' := hide_ (fun k (hk : G' k) => (hN.sub k hk).elim (fun h => Nat.lt_of_lt_of_le (hGl.out k h) hN.mod.size) fun h => h.2); clear hGl hG0 hN hM G0; obtain ⟨G0, hGe0⟩ : ∃ H, H = G' := ⟨_, rfl⟩; rw [← hGe0] at hG' hGl'; have hG0 := hide_ (show GaW G0 _ p g1 g2 vgb gs2 from hG'); have hGl := hGl'; clear hG' hGl' hGe0 G')
      | (have _t := c4; refine w_empt Try.elB rfl rfl ?_; intro ge we hge hx oe; replace oe := hide_ oe; (try replace f5 := f5.ext hx); (try replace b7 := hide_ (b7.out.ext hx)); (try replace ib := hide_ (ib.out.ext hx)); (try replace hGl := hide_ (fun k hk => Nat.lt_of_lt_of_le (hGl.out k hk) hx.size)); (try replace hG0 := hide_ (hG0.out.ext hx)); (try replace v10o := hide_ (show OwnB _ _ _ _ from own_ext v10o.out hx)); (try replace v10b := hide_ (v10b.out.ext hx)); (try replace f11 := f11.ext hx); (try replace ou := hide_ (ou.out.ext hx)); clear c4 _t hge; replace hX := hX.trans hx; clear hx)
      | (have _t := d4; refine w_appE Try.elB _ _ rfl rfl rfl rfl oe.out (ys := u8s x) (b7.out.ext (Ext.refl _)) (u8s_one _) (by rw [u8s_length]; have := hxl.out; omega) ?_; intro v13 wf hx on; have v13b := hide_ (show Byt wf v13 x from Sl.of_own on); have v13o := hide_ (show OwnB ge wf v13 x from on); have v13n := hide_ (fun k hk => (own_block_lt (g := k) on hk).2); have v13z := hide_ (Nat.le_refl wf.heap.size); (try replace f5 := f5.ext hx); (try replace b7 := hide_ (b7.out.ext hx)); (try replace ib := hide_ (ib.out.ext hx)); (try replace hGl := hide_ (fun k hk => Nat.lt_of_lt_of_le (hGl.out k hk) hx.size)); (try replace hG0 := hide_ (hG0.out.ext hx)); (try replace v10o := hide_ (show OwnB _ _ _ _ from own_ext v10o.out hx)); (try replace v10b := hide_ (v10b.out.ext hx)); (try replace f11 := f11.ext hx); (try replace ou := hide_ (ou.out.ext hx)); clear d4 _t on oe; replace hX := hX.trans hx; clear hx)
      | (go_at_call 10; refine (GPass_any hG0.out hx256.out (Nat.le_trans hxl.out (by omega)) v13b.out hfew2.out).mono ?_; rintro e w6 ⟨rfl, G', hG', hN⟩; rw [hp2.out] at hG' ⊢; clear v13b v13o v13n v13z; have hM := hG0.out.maps; replace f11 := f11.mapmod hN.mod hM; replace b7 := hide_ (Sl.mapmod b7.out hN.mod hM); replace v10b := hide_ (Sl.mapmod v10b.out hN.mod hM); replace hX := hN.mod.after hX hgW.out; have hGl' := hide_ (fun k (hk : G' k) => (hN.sub k hk).elim (fun h => Nat.lt_of_lt_of_le (hGl.out k h) hN.mod.size) fun h => h.2); clear hGl hG0 hN hM G0; obtain ⟨G0, hGe0⟩ : ∃ H, H = G' := ⟨_, rfl⟩; rw [← hGe0] at hG' hGl'; have hG0 := hide_ (show GaW G0 _ p g1 g2 vgb gs2 from hG'); have hGl := hGl'; clear hG' hGl' hGe0 G')
      | ((with_reducible refine at_field ?_); (try refine w_yes _ _ _ rfl rfl rfl ?_); refine w_mfield _ _ _ rfl rfl rfl (by omega) ?_)
      | ((with_reducible refine at_load ?_); (try refine w_yes _ _ _ rfl rfl rfl ?_); refine w_fload _ rfl rfl rfl f11 rfl (agg_of (by kernel_rfl)) ?_)
      | (go_at_call 11; refine (GBad_any hG0.out k.fm).mono ?_; rintro e w6 ⟨rfl, hx⟩; rw [hbd.out]; replace hX := hX.trans hx; clear hx)
      | fail) <;> (try simp only [Act.put, List.setIfInBounds_toArray, List.set_cons_zero, List.set_cons_succ]))
    go_ret
    exact Keep.intro ⟨rfl, hX⟩
  · have hry := hide_ hry0
    have hbd := hide_ hbd0
    clear hry0 hbd0
    go_wp2_with ((first
      | go_big_skip
      | (refine w_empt Try.elI rfl rfl ?_; intro ge we hge hx oe; replace oe := hide_ oe; clear hge; (try replace f5 := f5.ext hx); (try replace b7 := hide_ (b7.out.ext hx)); (try replace ib := hide_ (ib.out.ext hx)); (try replace hGl := hide_ (fun k hk => Nat.lt_of_lt_of_le (hGl.out k hk) hx.size)); (try replace hG0 := hide_ (hG0.out.ext hx)); (try replace v10o := hide_ (show OwnB _ _ _ _ from own_ext v10o.out hx)); (try replace v10b := hide_ (v10b.out.ext hx)); (try replace f11 := f11.ext hx); (try replace ou := hide_ (ou.out.ext hx)); replace hX := hX.trans hx; clear hx)
      | (refine w_appE Try.elI _ _ rfl rfl rfl rfl oe.out (ys := i64s bad) (hb.out.ext hX) (i64s_one _) (by rw [i64s_length]; have := hbl.out; omega) ?_; intro vi wf hx on; have ib := hide_ (show Ints wf vi bad from Sl.of_own on); clear on oe; (try replace f5 := f5.ext hx); (try replace b7 := hide_ (b7.out.ext hx)); (try replace ib := hide_ (ib.out.ext hx)); (try replace hGl := hide_ (fun k hk => Nat.lt_of_lt_of_le (hGl.out k hk) hx.size)); (try replace hG0 := hide_ (hG0.out.ext hx)); (try replace v10o := hide_ (show OwnB _ _ _ _ from own_ext v10o.out hx)); (try replace v10b := hide_ (v10b.out.ext hx)); (try replace f11 := f11.ext hx); (try replace ou := hide_ (ou.out.ext hx)); replace hX := hX.trans hx; clear hx)
      | (go_at_call 8; refine (GNew_any ib.out (by have := hbl.out; omega)).mono ?_; rintro e w2 ⟨p, rfl, g1, g2, vgb, G0, hG00, hx, hnew⟩; have hG0 := hide_ hG00; have hGl := hide_ (fun k (hk : G0 k) => (hnew k hk).2); have hgW := hide_ (show ∀ k, gm g1 g2 k → w.heap.size ≤ k from fun k hk => Nat.le_trans hX.size (hnew k (hk.elim (fun e => e ▸ hG00.inG.2.1) fun e => e ▸ hG00.inG.2.2.1)).1); clear hG00 hnew ib; replace f5 := f5.ext hx; replace b7 := hide_ (b7.out.ext hx); replace hX := hX.trans hx; clear hx)
      | (have _t := c1; refine w_empt Try.elB rfl rfl ?_; intro ge we hge hx oe; replace oe := hide_ oe; (try replace f5 := f5.ext hx); (try replace b7 := hide_ (b7.out.ext hx)); (try replace ib := hide_ (ib.out.ext hx)); (try replace hGl := hide_ (fun k hk => Nat.lt_of_lt_of_le (hGl.out k hk) hx.size)); (try replace hG0 := hide_ (hG0.out.ext hx)); (try replace v10o := hide_ (show OwnB _ _ _ _ from own_ext v10o.out hx)); (try replace v10b := hide_ (v10b.out.ext hx)); (try replace f11 := f11.ext hx); (try replace ou := hide_ (ou.out.ext hx)); clear c1 _t hge; replace hX := hX.trans hx; clear hx)
      | (have _t := d1; refine w_appE Try.elB _ _ rfl rfl rfl rfl oe.out (ys := u8s x) (b7.out.ext (Ext.refl _)) (u8s_one _) (by rw [u8s_length]; have := hxl.out; omega) ?_; intro v8 wf hx on; have v8b := hide_ (show Byt wf v8 x from Sl.of_own on); have v8o := hide_ (show OwnB ge wf v8 x from on); have v8n := hide_ (fun k hk => (own_block_lt (g := k) on hk).2); have v8z := hide_ (Nat.le_refl wf.heap.size); (try replace f5 := f5.ext hx); (try replace b7 := hide_ (b7.out.ext hx)); (try replace ib := hide_ (ib.out.ext hx)); (try replace hGl := hide_ (fun k hk => Nat.lt_of_lt_of_le (hGl.out k hk) hx.size)); (try replace hG0 := hide_ (hG0.out.ext hx)); (try replace v10o := hide_ (show OwnB _ _ _ _ from own_ext v10o.out hx)); (try replace v10b := hide_ (v10b.out.ext hx)); (try replace f11 := f11.ext hx); (try replace ou := hide_ (ou.out.ext hx)); clear d1 _t on oe; replace hX := hX.trans hx; clear hx)
      | (go_at_call 12; refine (GSay_any hG0.out hx256.out (Nat.le_trans hxl.out (by omega)) v8b.out (by simp)).mono ?_; rintro e w6 ⟨rfl, G', hG', hN⟩; rw [hs1.out] at hG'; clear v8b v8o v8n v8z; have hM := hG0.out.maps; replace f5 := f5.mapmod hN.mod hM; replace b7 := hide_ (Sl.mapmod b7.out hN.mod hM); replace hX := hN.mod.after hX hgW.out; have hGl' := hide_ (fun k (hk : G' k) => (hN.sub k hk).elim (fun h => Nat.lt_of_lt_of_le (hGl.out k h) hN.mod.size) fun h => h.2); clear hGl hG0 hN hM G0; obtain ⟨G0, hGe0⟩ : ∃ H, H = G' := ⟨_, rfl⟩; rw [← hGe0] at hG' hGl'; have hG0 := hide_ (show GaW G0 _ p g1 g2 vgb gs1 from hG'); have hGl := hGl'; clear hG' hGl' hGe0 G')
      | (have _t := c2; refine w_empt Try.elB rfl rfl ?_; intro ge we hge hx oe; replace oe := hide_ oe; have h5e := hide_ (Nat.lt_of_lt_of_le f5.lt hge); have h7e := hide_ (fun k hk => Nat.lt_of_lt_of_le (Sl.block_lt b7.out hxne.out (k := k) hk) hge); have hGe := hide_ (fun k hk => Nat.lt_of_lt_of_le (hGl.out k hk) hge); have hXe := hide_ (Nat.le_trans hX.size hge); obtain ⟨gE, hgE⟩ : ∃ z, z = ge := ⟨_, rfl⟩; (try replace f5 := f5.ext hx); (try replace b7 := hide_ (b7.out.ext hx)); (try replace ib := hide_ (ib.out.ext hx)); (try replace hGl := hide_ (fun k hk => Nat.lt_of_lt_of_le (hGl.out k hk) hx.size)); (try replace hG0 := hide_ (hG0.out.ext hx)); (try replace v10oo := hide_ (show OwnB _ _ _ _ from own_ext v10o.out hx)); (try replace v10b := hide_ (v10b.out.ext hx)); (try replace f11 := f11.ext hx); (try replace ou := hide_ (ou.out.ext hx)); clear c2 _t hge hgE; replace hX := hX.trans hx; clear hx)
      | (have _t := d2; refine w_appE Try.elB _ _ rfl rfl rfl rfl oe.out (ys := u8s x) (b7.out.ext (Ext.refl _)) (u8s_one _) (by rw [u8s_length]; have := hxl.out; omega) ?_; intro v10 wf hx on; have v10b := hide_ (show Byt wf v10 x from Sl.of_own on); have v10o := hide_ (show OwnB ge wf v10 x from on); have v10n := hide_ (fun k hk => (own_block_lt (g := k) on hk).2); have v10z := hide_ (Nat.le_refl wf.heap.size); (try replace f5 := f5.ext hx); (try replace b7 := hide_ (b7.out.ext hx)); (try replace ib := hide_ (ib.out.ext hx)); (try replace hGl := hide_ (fun k hk => Nat.lt_of_lt_of_le (hGl.out k hk) hx.size)); (try replace hG0 := hide_ (hG0.out.ext hx)); (try replace v10oo := hide_ (show OwnB _ _ _ _ from own_ext v10o.out hx)); (try replace v10b := hide_ (v10b.out.ext hx)); (try replace f11 := f11.ext hx); (try replace ou := hide_ (ou.out.ext hx)); clear d2 _t on oe; replace hX := hX.trans hx; clear hx)
      | ((with_reducible refine at_idx ?_); refine w_arraddr Try.ar2 _ _ 0 rfl rfl rfl rfl (by omega) ?_)
      | ((with_reducible refine at_idx ?_); refine w_arraddr Try.ar2 _ _ 1 rfl rfl rfl rfl (by omega) ?_)
      | ((with_reducible refine at_load ?_); (try refine w_yes _ _ _ rfl rfl rfl ?_); refine w_fload _ rfl rfl rfl f5 rfl (agg_of (by kernel_rfl)) ?_)
      | (refine wpList_runs rfl (runs_tou8 _ rfl rfl) ?_)
      | ((with_reducible refine at_idx ?_); refine w_oidx Try.elB _ _ rfl rfl rfl v10o.out rfl (by rw [u8s_length]; exact hi.out) ?_; intro gy hgy hgy1 hgy2)
      | ((with_reducible refine at_store ?_); refine w_ostore Try.elB _ _ (u := .int .u8 (a1 % 256)) rfl rfl rfl rfl rfl rfl rfl v10o.out hgy (by rw [u8s_length]; exact hi.out) ?_; intro w9 hb9 o9; rw [hysl.out] at o9; replace v10b := hide_ (show Byt w9 v10 y from Sl.of_own o9); replace b7 := hide_ (Sl.mod b7.out (Below.toMod hb9) (fun k hk e => by have := h7e.out k hk; omega)); replace hGl := hide_ (fun k hk => Nat.lt_of_lt_of_le (hGl.out k hk) hb9.size); replace hG0 := hide_ (hG0.out.mod (Below.toMod hb9) (fun k hk e => by have := hGe.out k hk; omega)); replace hX := (Below.toMod hb9).after hX (fun i e => Nat.le_trans hXe.out e); clear hb9 o9 v10o v10n v10z h5e h7e hGe hXe hgy hgy1 hgy2 f5)
      | (go_at_call 16; refine (refMRead_any hy256.out (by rw [hyl.out]; have := hxl.out; omega) v10b.out).mono ?_; rintro e w22 ⟨u9, rfl, hx, ou0⟩; rw [hry.out] at ou0 ⊢; rw [show omE (some k) = 0 from rfl, show mOr (some k) = k from rfl]; have ou := hide_ (show OwnT _ w22 u9 k.bk.txs from ou0); clear ou0; replace b7 := hide_ (b7.out.ext hx); replace v10b := hide_ (v10b.out.ext hx); replace hGl := hide_ (fun k hk => Nat.lt_of_lt_of_le (hGl.out k hk) hx.size); replace hG0 := hide_ (hG0.out.ext hx); replace hX := hX.trans hx; clear hx)
      | ((with_reducible refine at_alloc ?_); refine w_agalloc Try.agMsg rfl rfl ?_; intro g11 w23 hg11 hx f11; have n11 := hide_ (show (∀ k, u9.ownBlock = some k → ¬ k = g11) ∧ (∀ k, v7.ownBlock = some k → ¬ k = g11) ∧ (∀ k, v10.ownBlock = some k → ¬ k = g11) ∧ ∀ k, G0 k → ¬ k = g11 from ⟨fun k hk e => by have := ou.out.lt hk; omega, fun k hk e => by have := Sl.block_lt b7.out hxne.out hk; omega, fun k hk e => by have := Sl.block_lt v10b.out hyne.out hk; omega, fun k hk e => by have := hGl.out k hk; omega⟩); have hg11w := hide_ (Nat.le_trans hX.size hg11); replace ou := hide_ (ou.out.ext hx); replace b7 := hide_ (b7.out.ext hx); replace v10b := hide_ (v10b.out.ext hx); replace hGl := hide_ (fun k hk => Nat.lt_of_lt_of_le (hGl.out k hk) hx.size); replace hG0 := hide_ (hG0.out.ext hx); replace hX := hX.trans hx; clear hx)
      | ((with_reducible refine at_store ?_); refine w_agput Try.agMsg (us := mRow k u9) _ _ rfl rfl rfl rfl rfl f11 rfl rfl (m_one ou.out.recs.one') ?_; intro w24 hm24 f25; replace f11 := f25; replace b7 := hide_ (Sl.mod b7.out hm24 n11.out.2.1); replace v10b := hide_ (Sl.mod v10b.out hm24 n11.out.2.2.1); replace hGl := hide_ (fun k hk => Nat.lt_of_lt_of_le (hGl.out k hk) hm24.size); replace hG0 := hide_ (hG0.out.mod hm24 n11.out.2.2.2); replace hX := hm24.after hX (fun i e => e ▸ hg11w.out); clear hm24 f25 n11 hg11w ou)
      | (have _t := c3; refine w_empt Try.elB rfl rfl ?_; intro ge we hge hx oe; replace oe := hide_ oe; (try replace f5 := f5.ext hx); (try replace b7 := hide_ (b7.out.ext hx)); (try replace ib := hide_ (ib.out.ext hx)); (try replace hGl := hide_ (fun k hk => Nat.lt_of_lt_of_le (hGl.out k hk) hx.size)); (try replace hG0 := hide_ (hG0.out.ext hx)); (try replace v10o := hide_ (show OwnB _ _ _ _ from own_ext v10o.out hx)); (try replace v10b := hide_ (v10b.out.ext hx)); (try replace f11 := f11.ext hx); (try replace ou := hide_ (ou.out.ext hx)); clear c3 _t hge; replace hX := hX.trans hx; clear hx)
      | (have _t := d3; refine w_appE Try.elB _ _ rfl rfl rfl rfl oe.out (ys := u8s y) (v10b.out.ext (Ext.refl _)) (u8s_one _) (by rw [u8s_length]; rw [hyl.out]; have := hxl.out; omega) ?_; intro v12 wf hx on; have v12b := hide_ (show Byt wf v12 y from Sl.of_own on); have v12o := hide_ (show OwnB ge wf v12 y from on); have v12n := hide_ (fun k hk => (own_block_lt (g := k) on hk).2); have v12z := hide_ (Nat.le_refl wf.heap.size); (try replace f5 := f5.ext hx); (try replace b7 := hide_ (b7.out.ext hx)); (try replace ib := hide_ (ib.out.ext hx)); (try replace hGl := hide_ (fun k hk => Nat.lt_of_lt_of_le (hGl.out k hk) hx.size)); (try replace hG0 := hide_ (hG0.out.ext hx)); (try replace v10o := hide_ (show OwnB _ _ _ _ from own_ext v10o.out hx)); (try replace v10b := hide_ (v10b.out.ext hx)); (try replace f11 := f11.ext hx); (try replace ou := hide_ (ou.out.ext hx)); clear d3 _t on oe; replace hX := hX.trans hx; clear hx)
      | (go_at_call 10; refine (GPass_any hG0.out hy256.out (by rw [hyl.out]; have := hxl.out; omega) v12b.out hfew1.out).mono ?_; rintro e w6 ⟨rfl, G', hG', hN⟩; rw [hp1.out] at hG' ⊢; clear v12b v12o v12n v12z; have hM := hG0.out.maps; replace f11 := f11.mapmod hN.mod hM; replace b7 := hide_ (Sl.mapmod b7.out hN.mod hM); replace v10b := hide_ (Sl.mapmod v10b.out hN.mod hM); replace hX := hN.mod.after hX hgW.out; have hGl' := hide_ (fun k (hk : G' k) => (hN.sub k hk).elim (fun h => Nat.lt_of_lt_of_le (hGl.out k h) hN.mod.size) fun h => h.2); clear hGl hG0 hN hM G0; obtain ⟨G0, hGe0⟩ : ∃ H, H = G' := ⟨_, rfl⟩; rw [← hGe0] at hG' hGl'; have hG0 := hide_ (show GaW G0 _ p g1 g2 vgb gs2 from hG'); have hGl := hGl'; clear hG' hGl' hGe0 G')
      | (have _t := c4; refine w_empt Try.elB rfl rfl ?_; intro ge we hge hx oe; replace oe := hide_ oe; (try replace f5 := f5.ext hx); (try replace b7 := hide_ (b7.out.ext hx)); (try replace ib := hide_ (ib.out.ext hx)); (try replace hGl := hide_ (fun k hk => Nat.lt_of_lt_of_le (hGl.out k hk) hx.size)); (try replace hG0 := hide_ (hG0.out.ext hx)); (try replace v10o := hide_ (show OwnB _ _ _ _ from own_ext v10o.out hx)); (try replace v10b := hide_ (v10b.out.ext hx)); (try replace f11 := f11.ext hx); (try replace ou := hide_ (ou.out.ext hx)); clear c4 _t hge; replace hX := hX.trans hx; clear hx)
      | (have _t := d4; refine w_appE Try.elB _ _ rfl rfl rfl rfl oe.out (ys := u8s x) (b7.out.ext (Ext.refl _)) (u8s_one _) (by rw [u8s_length]; have := hxl.out; omega) ?_; intro v13 wf hx on; have v13b := hide_ (show Byt wf v13 x from Sl.of_own on); have v13o := hide_ (show OwnB ge wf v13 x from on); have v13n := hide_ (fun k hk => (own_block_lt (g := k) on hk).2); have v13z := hide_ (Nat.le_refl wf.heap.size); (try replace f5 := f5.ext hx); (try replace b7 := hide_ (b7.out.ext hx)); (try replace ib := hide_ (ib.out.ext hx)); (try replace hGl := hide_ (fun k hk => Nat.lt_of_lt_of_le (hGl.out k hk) hx.size)); (try replace hG0 := hide_ (hG0.out.ext hx)); (try replace v10o := hide_ (show OwnB _ _ _ _ from own_ext v10o.out hx)); (try replace v10b := hide_ (v10b.out.ext hx)); (try replace f11 := f11.ext hx); (try replace ou := hide_ (ou.out.ext hx)); clear d4 _t on oe; replace hX := hX.trans hx; clear hx)
      | (go_at_call 10; refine (GPass_any hG0.out hx256.out (Nat.le_trans hxl.out (by omega)) v13b.out hfew2.out).mono ?_; rintro e w6 ⟨rfl, G', hG', hN⟩; rw [hp2.out] at hG' ⊢; clear v13b v13o v13n v13z; have hM := hG0.out.maps; replace f11 := f11.mapmod hN.mod hM; replace b7 := hide_ (Sl.mapmod b7.out hN.mod hM); replace v10b := hide_ (Sl.mapmod v10b.out hN.mod hM); replace hX := hN.mod.after hX hgW.out; have hGl' := hide_ (fun k (hk : G' k) => (hN.sub k hk).elim (fun h => Nat.lt_of_lt_of_le (hGl.out k h) hN.mod.size) fun h => h.2); clear hGl hG0 hN hM G0; obtain ⟨G0, hGe0⟩ : ∃ H, H = G' := ⟨_, rfl⟩; rw [← hGe0] at hG' hGl'; have hG0 := hide_ (show GaW G0 _ p g1 g2 vgb gs2 from hG'); have hGl := hGl'; clear hG' hGl' hGe0 G')
      | ((with_reducible refine at_field ?_); (try refine w_yes _ _ _ rfl rfl rfl ?_); refine w_mfield _ _ _ rfl rfl rfl (by omega) ?_)
      | ((with_reducible refine at_load ?_); (try refine w_yes _ _ _ rfl rfl rfl ?_); refine w_fload _ rfl rfl rfl f11 rfl (agg_of (by kernel_rfl)) ?_)
      | (go_at_call 11; refine (GBad_any hG0.out k.fm).mono ?_; rintro e w6 ⟨rfl, hx⟩; rw [hbd.out]; replace hX := hX.trans hx; clear hx)
      | fail) <;> (try simp only [Act.put, List.setIfInBounds_toArray, List.set_cons_zero, List.set_cons_succ]))
    go_ret
    exact Keep.intro ⟨rfl, hX⟩

set_option maxRecDepth 100000 in
theorem gateMarks_lifted (os : Os) (started : os.Started) (H : Type) (enc : TypeId × Value → H) :
    ReturnsInHanded {} Try.checked os 7 .any (Rows.gateMarksSpec.pre6 enc Try.prog Try.f7 Rows.gateMarksRow.domain false) (Rows.gateMarksSpec.post enc Try.prog Try.f7 false true false false) := by
  refine law_lifted (s := Rows.gateMarksSpec) (conds := Rows.gateMarksRow.domain) Try.func7 (by kernel_rfl) rfl (fun H ds h => by
      rw [show Try.f7.params.size = 3 from rfl] at h
      match ds, h with
      | [d0, d1, d2], _ => rfl) rfl rfl (by decide +kernel) os started H enc
    (ChangeSpec.witness6 (enc := enc) (C := Try.checked) false ⟨#[], #[.slice none 0 0, .agg #[.int .i64 0, .int .i64 0, .int .i64 0, .int .i64 0, .int .i64 0, .int .i64 0, .int .i64 0, .int .i64 0, .int .i64 0, .int .i64 0, .int .i64 0, .int .i64 0, .slice none 0 0], .agg #[.int .i64 0, .int .i64 0]], []⟩ 8 (by kernel_rfl) (by kernel_rfl) (by kernel_rfl) (by kernel_rfl)) ?_
  intro W base args ds p hval hA hsz _
  have hp : Try.f7.params.toList = [24, 48, 56] := rfl
  rw [hp] at hA hsz
  obtain ⟨v0, v1, v2, d0, d1, d2, p0, p1, p2, rfl, rfl, rfl, h0, h1, h2⟩ := trodAll_three hA
  obtain ⟨l0, a0, b0, c0⟩ := arg_ints hsz (j := 0) rfl rfl (hval 0 24 v0 rfl rfl) h0
  obtain ⟨row1, m1, rfl, n1, k1⟩ := arg_Msg hsz (j := 1) rfl rfl (hval 1 48 v1 rfl rfl) h1
  obtain ⟨x2, y2, rfl, b2, c2⟩ := open_int_array2 Try.underlying56 Try.underlying3 (by kernel_rfl) (by kernel_rfl) (hval 2 56 v2 rfl rfl) h2
  simp [Lit.wf, IntKind.min, IntKind.max, IntKind.signed, IntKind.bits] at b2 c2
  exact gateMarks_law row1 m1 v0 l0 x2 y2 W k1 a0 b2 c2

theorem gateMarks_holds : Rows.GateMarksSaid :=
  OpenClaim.holds_of_wide 7 Try.f7 rfl rfl rfl rfl rfl rfl rfl ⟨rfl, rfl, rfl, rfl, rfl⟩ rfl rfl rfl rfl rfl (by kernel_rfl) Try.func7 (by kernel_rfl)
    (of_decide_eq_true (by kernel_rfl)) (by unfold Func.isWrapper; first | (rw [if_pos (by decide +kernel)]; kernel_rfl) | (rw [if_neg (by decide +kernel)]; exact ⟨rfl, rfl⟩))
    (fun os started H enc _ => gateMarks_lifted os started H enc)
#print axioms gateMarks_holds

end Go.Proofs.Ytgbhbifdfcfamaa
