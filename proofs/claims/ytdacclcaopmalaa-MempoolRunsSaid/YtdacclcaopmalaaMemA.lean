/- A pool of transactions: what is asked of it. -/
import Derived.Test.YtdacclcaopmalaaMemN
import Derived.Test.YtdacclcaopmalaaTXB
import Derived.Test.YtdacclcaopmalaaTrD
namespace Go.Proofs.Ytdacclcaopmalaa
set_option maxRecDepth 100000
open Go.RowKit

theorem retV {f : FuncId} {args : Array Value} {w : World} {u : Value} (h : Calls Try.prog f args w fun e w' => e = .returned u ∧ Ext w w') : Calls Try.prog f args w fun e w' => ∃ v', e = .returned v' ∧ Ext w w' ∧ Sp.p (.val u) v' w' := by
  refine h.mono ?_
  rintro e w' ⟨rfl, hx⟩
  exact ⟨_, rfl, hx, rfl⟩
theorem Try.stPool : St Try.prog 72 1 [.slice none 0 0] := St.of (by kernel_rfl) (by kernel_rfl) rfl
/-- A pool: its cell, and the row that it owns, in blocks of F. -/
def Pl (F : Nat → Prop) (w : World) (p : Nat) (l : List TxD) : Prop :=
  ∃ v, Fs w p [v] ∧ RowN (fun k => F k ∧ k ≠ p) w 30 2 v (l.map TxD.row) ∧ (∀ t ∈ l, t.Raw) ∧ F p ∧ ∀ k, F k → k < w.heap.size
section
variable {F G : Nat → Prop} {w w' : World} {p : Nat} {l : List TxD}
theorem Pl.ext (h : Pl F w p l) (he : Ext w w') : Pl F w' p l := by
  obtain ⟨v, f, hr, hraw, hp, hl⟩ := h
  exact ⟨v, f.ext he, hr.ext he, hraw, hp, fun k hk => Nat.lt_of_lt_of_le (hl k hk) he.size⟩
theorem Pl.mod (h : Pl F w p l) (hm : Mod G w w') (hd : ∀ k, F k → ¬ G k) : Pl F w' p l := by
  obtain ⟨v, f, hr, hraw, hp, hl⟩ := h
  exact ⟨v, f.mod hm (hd p hp), hr.mod hm fun k hk => hd k hk.1, hraw, hp, fun k hk => Nat.lt_of_lt_of_le (hl k hk) hm.size⟩
theorem Pl.lt (h : Pl F w p l) : ∀ k, F k → k < w.heap.size := by obtain ⟨_, _, _, _, _, hl⟩ := h; exact hl
theorem Pl.raw (h : Pl F w p l) : ∀ t ∈ l, t.Raw := by obtain ⟨_, _, _, hr, _, _⟩ := h; exact hr
theorem Pl.at (h : Pl F w p l) : ∃ v, Fs w p [v] ∧ Recs 2 TxR w v l := by
  obtain ⟨v, f, hr, hraw, _, _⟩ := h
  exact ⟨v, f, hr.recs (by simp) (rows_recs rfl hraw)⟩
end

set_option maxRecDepth 100000 in
set_option maxHeartbeats 1600000 in
theorem PNew_any {w : World} : Calls Try.prog 11 #[] w fun e w' => ∃ (p : Nat), e = .returned (.pointer (some ⟨p, 0, none⟩)) ∧ Pl (fun k => k = p) w' p [] ∧ Ext w w' ∧ w.heap.size ≤ p := by
  refine calls_keep ?_
  go_enter Try.func11, Try.ntmps11
  go_wp2_with ((first
    | ((with_reducible refine at_sbuild ?_); refine w_sbuild Try.stPool [.slice none 0 0] rfl rfl rfl (by intro p hp; simp at hp) ?_)
    | ((with_reducible refine at_box ?_); refine w_box _ [.slice none 0 0] rfl rfl rfl rfl ?_; intro p w1 hp hX f1)
    | fail) <;> (try simp only [Act.put, List.setIfInBounds_toArray, List.set_cons_zero, List.set_cons_succ]))
  go_ret
  exact Keep.intro ⟨p, rfl, ⟨_, f1, RowN.nil _ _ _, fun _ h => by simp at h, rfl, fun k hk => by subst hk; exact f1.lt⟩, hX, hp⟩

theorem w_risnil {α : Type} {R : World → List Value → α → Prop} {P : Program} {ops : Array Oper} {rest : List Oper} {o : Oper} {a : Act} {Q : Exit → Act → World → Prop} {w : World} {t e : TypeId} {n : Nat} {v : Value} {l : List α} (E : ElS P t e n) (x : Operand) (m c : Nat) (hgd : o.guard = none) (ho : o.op = .binOp .eql t x (.const (.slice none m c)) t) (hv : a.eval x = v) (h : Recs n R w v l)
    (k : ∀ b, (b = true → l = []) → wpList P ops Q rest (a.put o.dst (.bool b)) w) : wpList P ops Q (o :: rest) a w := by
  obtain ⟨rows, ⟨A, c', rfl, h1, h2, h3⟩, hl, _⟩ := h
  refine wpList_runs hgd (v := .bool A.isNone) ?_ (k _ fun hb => ?_)
  · have hc : a.eval (.const (.slice none m c)) = .slice none m c := rfl
    unfold Runs execOp
    simp [ho, hv, hc, eqGuard, Lib.run_eql_slice_nil _ _ _ _ _ _ _ _ E.hu]
  · have : A = none := by simpa using hb
    subst this
    cases rows with
    | nil => exact List.length_eq_zero_iff.1 hl.symm
    | cons r rs =>
      obtain ⟨_, ad, hA, _⟩ := h3 0 r rfl
      cases hA

set_option maxRecDepth 100000 in
set_option maxHeartbeats 1600000 in
theorem PClone_any {w : World} {v : Value} {l : List TxD} (h0 : Recs 2 TxR w v l) (hlen : l.length * 16 ≤ 140737488355328) :
    Calls Try.prog 40 #[v] w fun e w' => ∃ v', e = .returned v' ∧ OwnT w.heap.size w' v' l ∧ Ext w w' := by
  refine calls_keep ?_
  have hr := hide_ h0
  have hs := hide_ (recs_rows h0).1
  have hraw := hide_ (recs_rows h0).2
  have hone := hide_ (row_one (l := l))
  have hbig := hide_ (show (([] : List (List Value)).length + (l.map TxD.row).length) * 16 ≤ 140737488355328 from by simp; omega)
  clear h0 hlen
  go_enter Try.func40, Try.ntmps40
  go_wp2_with ((first
    | (refine w_risnil Try.elTx _ _ _ rfl rfl rfl hr.out ?_; intro b hb; cases b)
    | ((with_reducible refine at_lit ?_); refine w_nnew Try.elTxN [] rfl rfl rfl (by simp) rfl (by omega) ?_; intro v0 w3 B hB1 hB2 hX hn0)
    | ((with_reducible refine at_bi ?_); refine w_napp0 Try.elTxN _ _ rfl rfl rfl rfl hn0 (hs.out.ext hX) hone.out hbig.out ?_; intro v3 w4 hm hn; rw [List.nil_append] at hn; have o3 := OwnT.of (lo := w.heap.size) (l := l) hn hraw.out (fun k hk => hk.elim (fun h => Nat.le_trans hB1 (And.left h)) (fun h => Nat.le_trans hX.size (And.left h))); replace hX := hm.after hX (fun k hk => Nat.le_trans hB1 (And.left hk)); clear hm hn hn0 hB1 hB2)
    | fail) <;> (try simp only [Act.put, List.setIfInBounds_toArray, List.set_cons_zero, List.set_cons_succ]))
  · go_ret
    exact Keep.intro ⟨v3, rfl, o3, hX⟩
  · obtain rfl := hb trivial
    go_ret
    exact Keep.intro ⟨_, rfl, OwnT.nil _ _, Ext.refl _⟩

set_option maxRecDepth 100000 in
set_option maxHeartbeats 1600000 in
theorem PList_any {F : Nat → Prop} {w : World} {p : Nat} {l : List TxD} (h0 : Pl F w p l) (hlen : l.length ≤ 16) :
    Calls Try.prog 12 #[.pointer (some ⟨p, 0, none⟩)] w fun e w' => ∃ v', e = .returned v' ∧ OwnT w.heap.size w' v' l ∧ Ext w w' := by
  refine calls_keep ?_
  obtain ⟨v, f1, hr0⟩ := h0.at
  have hr := hide_ hr0
  have hl := hide_ (show l.length * 16 ≤ 140737488355328 from by omega)
  clear h0 hr0
  go_enter Try.func12, Try.ntmps12
  go_wp2_with ((first
    | (go_at_call 40; refine (PClone_any hr.out hl.out).mono ?_; rintro e w2 ⟨v2, rfl, o2, hX⟩)
    | ((with_reducible refine at_field ?_); refine w_field Try.stPool _ _ _ rfl rfl rfl (by omega) ?_)
    | ((with_reducible refine at_load ?_); refine w_fload _ rfl rfl rfl f1 rfl (agg_of (by kernel_rfl)) ?_)
    | fail) <;> (try simp only [Act.put, List.setIfInBounds_toArray, List.set_cons_zero, List.set_cons_succ]))
  go_ret
  exact Keep.intro ⟨v2, rfl, o2, hX⟩

/-! ### How many go ahead -/
set_option maxRecDepth 100000 in
set_option maxHeartbeats 1600000 in
theorem place_any {F : Nat → Prop} {w : World} {p : Nat} {l : List TxD} {t : TxD} (h0 : Pl F w p l) (hlen : l.length ≤ 16) :
    Calls Try.prog 42 #[.pointer (some ⟨p, 0, none⟩), .agg #[.int .i64 t.id, .int .i64 t.fee]] w fun e w' => e = .returned (.int .i64 (Mem.plc l t : Nat)) ∧ Ext w w' := by
  refine calls_keep ?_
  obtain ⟨v, f1, hr0⟩ := h0.at
  have hr := hide_ hr0
  have hple := hide_ (Mem.plc_le l t)
  clear h0 hr0
  go_enter Try.func42, Try.ntmps42
  go_wp2_with ((first
    | ((with_reducible refine at_box ?_); refine w_box _ [.int .i64 t.id, .int .i64 t.fee] rfl rfl rfl rfl ?_; intro g3 w1 hg3 hX f3; replace f1 := f1.ext hX)
    | fail) <;> (try simp only [Act.put, List.setIfInBounds_toArray, List.set_cons_zero, List.set_cons_succ]))
  go_loopw [5] (fun i wr => ∃ k : Nat, i = .int .i64 k ∧ k ≤ Mem.plc l t ∧ Ext w wr ∧ Fs wr p [v] ∧ Fs wr g3 [.int .i64 t.id, .int .i64 t.fee]) (fun i _ => l.length - (RowKit.intOf i).toNat)
  case atStart => exact ⟨0, rfl, Nat.zero_le _, hX, f1, f3⟩
  case round =>
    clear hX f1 f3
    obtain ⟨k, rfl, hk, hX, f1, f3⟩ := hrel
    have hkl := Nat.le_trans hk hple.out
    by_cases hge : l.length ≤ k
    · obtain rfl : k = l.length := by omega
      have hpe := hide_ (show Mem.plc l t = l.length from by have := hple.out; omega)
      have t2 : decide (l.length < l.length) = false := by simp
      clear hge hk
      go_wp2
      refine wp_region_phx (by kernel_rfl) ?_; intro wd hxd; have F1 := f1.ext hxd; have F3 := f3.ext hxd; have J := hr.out.ext TxR.stays (hX.trans hxd)
      refine Ph.rest 0 18 (by kernel_rfl) ?_
      refine LinL.step (s := (.val (.int .i64 (l.length : Nat)))) [(5, none)] rfl (by kernel_rfl) (op_out 5 (.int .i64 (l.length : Nat)) rfl (.inl rfl) rfl) ?_
      refine LinL.step (s := (.val (.pointer (some ⟨p, 0, none⟩)))) [(0, none)] rfl (by kernel_rfl) (op_out 0 (.pointer (some ⟨p, 0, none⟩)) rfl (.inl rfl) rfl) ?_
      refine LinL.step (s := (.val (.pointer (some ⟨p, 0, none⟩)))) [(7, some 0)] rfl (by kernel_rfl) (op_runs rfl fun σ w' hx hg => ⟨_, runs_nil (ρ := σ.eval) (w := w') (.tmp 7) rfl hg.1, rfl⟩) ?_
      refine LinL.step (s := (.val (.pointer (some ⟨p, 0, none⟩)))) [(8, some 0)] rfl (by kernel_rfl) (op_runs rfl fun σ w' hx hg => ⟨_, runs_field (ρ := σ.eval) (w := w') Try.stPool (.tmp 8) p 0 rfl hg.1 (by omega), rfl⟩) ?_
      refine LinL.step (s := (.val (v))) [(9, some 0)] rfl (by kernel_rfl) (op_runs rfl fun σ w' hx hg => ⟨_, runs_fload (ρ := σ.eval) (w := w') (.tmp 9) rfl hg.1 (agg_of (by kernel_rfl) _) (F1.ext hx) rfl, rfl⟩) ?_
      refine LinL.step (s := (.val (.int .i64 (l.length : Nat)))) [(10, some 0)] rfl (by kernel_rfl) (op_runs rfl fun σ w' hx hg => ⟨_, runs_rlen (ρ := σ.eval) (w := w') Try.elTx (.tmp 10) rfl hg.1 (J.ext TxR.stays hx), rfl⟩) ?_
      refine LinL.step (s := (.val (.bool false))) [(6, some 5), (11, some 0)] rfl (by kernel_rfl) (op_runs rfl fun σ w' hx hg => ⟨(.bool false), by have h6 : σ.tmps.getD 6 undef = .int .i64 (l.length : Nat) := hg.1; have h11 : σ.tmps.getD 11 undef = .int .i64 (l.length : Nat) := hg.2.1; unfold Runs execOp; simp [Act.eval, h6, h11, go_sem, t2], rfl⟩) ?_
      refine LinL.step (s := (.val (.bool false))) [(12, some 0)] rfl (by kernel_rfl) (op_copy 12 0 (.val (.bool false)) rfl (.inl rfl) rfl) ?_
      refine LinL.step (s := .val undef) [(0, none), (13, some 0)] rfl (by kernel_rfl) (op_no (reads := [(0, none)]) 7 13 0 true rfl rfl rfl) ?_
      refine LinL.step (s := .val undef) [(14, some 0), (13, some 1)] rfl (by kernel_rfl) (op_no (reads := [(14, some 0)]) 7 13 1 true rfl rfl rfl) ?_
      refine LinL.step (s := .val undef) [(15, some 0), (13, some 2)] rfl (by kernel_rfl) (op_no (reads := [(15, some 0)]) 7 13 2 true rfl rfl rfl) ?_
      refine LinL.step (s := .val undef) [(16, some 0), (13, some 3)] rfl (by kernel_rfl) (op_no (reads := [(16, some 0)]) 7 13 3 true rfl rfl rfl) ?_
      refine LinL.step (s := .val undef) [(5, none), (13, some 4)] rfl (by kernel_rfl) (op_no (reads := [(5, none)]) 7 13 4 true rfl rfl rfl) ?_
      refine LinL.step (s := .val undef) [(17, some 1), (18, some 0), (13, some 5)] rfl (by kernel_rfl) (op_no (reads := [(17, some 1), (18, some 0)]) 7 13 5 true rfl rfl rfl) ?_
      refine LinL.step (s := .val undef) [(19, some 0), (13, some 6)] rfl (by kernel_rfl) (op_no (reads := [(19, some 0)]) 7 13 6 true rfl rfl rfl) ?_
      refine LinL.step (s := .val undef) [(3, none), (13, some 7)] rfl (by kernel_rfl) (op_no (reads := [(3, none)]) 7 13 7 true rfl rfl rfl) ?_
      refine LinL.step (s := .val undef) [(20, some 1), (21, some 0), (13, some 8)] rfl (by kernel_rfl) (op_no (reads := [(20, some 1), (21, some 0)]) 7 13 8 true rfl rfl rfl) ?_
      refine LinL.step (s := (.val (.bool false))) [(13, some 9), (22, some 0)] rfl (by kernel_rfl) (op_runs rfl fun σ w' hx hg => ⟨_, runs_pick_f (ρ := σ.eval) (w := w') (.tmp 13) (.tmp 22) (.const (.bool false)) rfl hg.1 rfl, rfl⟩) ?_
      intro wN hxN
      simp only [Fin', List.reverse_cons, List.reverse_nil, List.nil_append, List.cons_append, List.drop_zero, List.take_succ_cons, List.take_zero]
      simp only [Act.put, List.setIfInBounds_toArray, List.set_cons_zero, List.set_cons_succ]
      replace hX := hX.trans (hxd.trans hxN)
      clear hxd hxN F1 F3
      go_wp2
      go_ret
      exact Keep.intro ⟨by rw [hpe.out]; rfl, hX⟩
    have hlt : k < l.length := by omega
    have t2 : decide (k < l.length) = true := by simpa using hlt
    obtain ⟨d, hd0⟩ : ∃ d, l[k]? = some d := ⟨_, List.getElem?_eq_getElem hlt⟩
    have hlt' := hide_ hlt
    have hd := hide_ hd0
    cases c : TxD.less d t
    · have hpe := hide_ (show Mem.plc l t = k from by
        rcases Nat.lt_or_ge k (Mem.plc l t) with h | h
        · rw [Mem.plc_lt hd0 h] at c; cases c
        · omega)
      clear hge hk hlt hd0
      go_wp2
      refine wp_region_phx (by kernel_rfl) ?_; intro wd hxd; have F1 := f1.ext hxd; have F3 := f3.ext hxd; have J := hr.out.ext TxR.stays (hX.trans hxd)
      refine Ph.rest 0 18 (by kernel_rfl) ?_
      refine LinL.step (s := (.val (.int .i64 (k : Nat)))) [(5, none)] rfl (by kernel_rfl) (op_out 5 (.int .i64 (k : Nat)) rfl (.inl rfl) rfl) ?_
      refine LinL.step (s := (.val (.pointer (some ⟨p, 0, none⟩)))) [(0, none)] rfl (by kernel_rfl) (op_out 0 (.pointer (some ⟨p, 0, none⟩)) rfl (.inl rfl) rfl) ?_
      refine LinL.step (s := (.val (.pointer (some ⟨p, 0, none⟩)))) [(7, some 0)] rfl (by kernel_rfl) (op_runs rfl fun σ w' hx hg => ⟨_, runs_nil (ρ := σ.eval) (w := w') (.tmp 7) rfl hg.1, rfl⟩) ?_
      refine LinL.step (s := (.val (.pointer (some ⟨p, 0, none⟩)))) [(8, some 0)] rfl (by kernel_rfl) (op_runs rfl fun σ w' hx hg => ⟨_, runs_field (ρ := σ.eval) (w := w') Try.stPool (.tmp 8) p 0 rfl hg.1 (by omega), rfl⟩) ?_
      refine LinL.step (s := (.val (v))) [(9, some 0)] rfl (by kernel_rfl) (op_runs rfl fun σ w' hx hg => ⟨_, runs_fload (ρ := σ.eval) (w := w') (.tmp 9) rfl hg.1 (agg_of (by kernel_rfl) _) (F1.ext hx) rfl, rfl⟩) ?_
      refine LinL.step (s := (.val (.int .i64 (l.length : Nat)))) [(10, some 0)] rfl (by kernel_rfl) (op_runs rfl fun σ w' hx hg => ⟨_, runs_rlen (ρ := σ.eval) (w := w') Try.elTx (.tmp 10) rfl hg.1 (J.ext TxR.stays hx), rfl⟩) ?_
      refine LinL.step (s := (.val (.bool true))) [(6, some 5), (11, some 0)] rfl (by kernel_rfl) (op_runs rfl fun σ w' hx hg => ⟨(.bool true), by have h6 : σ.tmps.getD 6 undef = .int .i64 (k : Nat) := hg.1; have h11 : σ.tmps.getD 11 undef = .int .i64 (l.length : Nat) := hg.2.1; unfold Runs execOp; simp [Act.eval, h6, h11, go_sem, t2], rfl⟩) ?_
      refine LinL.step (s := (.val (.bool true))) [(12, some 0)] rfl (by kernel_rfl) (op_copy 12 0 (.val (.bool true)) rfl (.inl rfl) rfl) ?_
      refine LinL.step (s := (.val (.pointer (some ⟨p, 0, none⟩)))) [(0, none), (13, some 0)] rfl (by kernel_rfl) (op_yes (reads := [(0, none)]) 7 13 0 true rfl rfl rfl (op_out 0 (.pointer (some ⟨p, 0, none⟩)) rfl (.inl rfl) rfl)) ?_
      refine LinL.step (s := (.val (.pointer (some ⟨p, 0, none⟩)))) [(14, some 0), (13, some 1)] rfl (by kernel_rfl) (op_yes (reads := [(14, some 0)]) 7 13 1 true rfl rfl rfl (op_runs rfl fun σ w' hx hg => ⟨_, runs_nil (ρ := σ.eval) (w := w') (.tmp 14) rfl hg.1, rfl⟩)) ?_
      refine LinL.step (s := (.val (.pointer (some ⟨p, 0, none⟩)))) [(15, some 0), (13, some 2)] rfl (by kernel_rfl) (op_yes (reads := [(15, some 0)]) 7 13 2 true rfl rfl rfl (op_runs rfl fun σ w' hx hg => ⟨_, runs_field (ρ := σ.eval) (w := w') Try.stPool (.tmp 15) p 0 rfl hg.1 (by omega), rfl⟩)) ?_
      refine LinL.step (s := (.val (v))) [(16, some 0), (13, some 3)] rfl (by kernel_rfl) (op_yes (reads := [(16, some 0)]) 7 13 3 true rfl rfl rfl (op_runs rfl fun σ w' hx hg => ⟨_, runs_fload (ρ := σ.eval) (w := w') (.tmp 16) rfl hg.1 (agg_of (by kernel_rfl) _) (F1.ext hx) rfl, rfl⟩)) ?_
      refine LinL.step (s := (.val (.int .i64 (k : Nat)))) [(5, none), (13, some 4)] rfl (by kernel_rfl) (op_yes (reads := [(5, none)]) 7 13 4 true rfl rfl rfl (op_out 5 (.int .i64 (k : Nat)) rfl (.inl rfl) rfl)) ?_
      refine LinL.step (s := (Sp.recp 2 TxR TxR.stays d)) [(17, some 1), (18, some 0), (13, some 5)] rfl (by kernel_rfl) (op_yes (reads := [(17, some 1), (18, some 0)]) 7 13 5 true rfl rfl rfl (op_runs rfl fun σ w' hx hg => rridx (ρ := σ.eval) (w := w') TxR.stays Try.elTx (.tmp 17) (.tmp 18) k rfl hg.1 hg.2.1 (J.ext TxR.stays hx) hd.out)) ?_
      refine LinL.step (s := (.val (.agg #[.int .i64 d.id, .int .i64 d.fee]))) [(19, some 0), (13, some 6)] rfl (by kernel_rfl) (op_yes (reads := [(19, some 0)]) 7 13 6 true rfl rfl rfl (op_runs rfl fun σ w' hx hg => by obtain ⟨p', row, h1, h2, h3, h4, _⟩ := hg.1; subst h4; exact ⟨_, runs_pload (ρ := σ.eval) (w := w') Try.stTx (.tmp 19) rfl h1 h2 h3, rfl⟩)) ?_
      refine LinL.step (s := (.val (.agg #[.int .i64 t.id, .int .i64 t.fee]))) [(3, none), (13, some 7)] rfl (by kernel_rfl) (op_yes (reads := [(3, none)]) 7 13 7 true rfl rfl rfl (op_runs rfl fun σ w' hx hg => ⟨_, runs_aload (ρ := σ.eval) (w := w') Try.stTx (.tmp 3) rfl hg.1 (F3.ext hx) rfl, rfl⟩)) ?_
      refine LinL.step (s := (.val (.bool false))) [(20, some 1), (21, some 0), (13, some 8)] rfl (by kernel_rfl) (op_yes (reads := [(20, some 1), (21, some 0)]) 7 13 8 true rfl rfl rfl (op_calls 67 #[(.tmp 20), (.tmp 21)] #[30, 30] (fun σ => #[.agg #[.int .i64 d.id, .int .i64 d.fee], .agg #[.int .i64 t.id, .int .i64 t.fee]]) rfl rfl (fun _ _ => rfl) fun σ w' hx hg => ⟨by have h20 : σ.tmps.getD 20 undef = .agg #[.int .i64 d.id, .int .i64 d.fee] := hg.1; have h21 : σ.tmps.getD 21 undef = .agg #[.int .i64 t.id, .int .i64 t.fee] := hg.2.1; simp only [List.map_toArray, List.map_cons, List.map_nil, Act.eval, h20, h21], by have h := Less_any d t w'; rw [c] at h; exact retV h⟩)) ?_
      refine LinL.step (s := (.val (.bool false))) [(13, some 9), (22, some 0)] rfl (by kernel_rfl) (op_runs rfl fun σ w' hx hg => ⟨_, runs_pick_t (ρ := σ.eval) (w := w') (.tmp 13) (.tmp 22) (.const (.bool false)) rfl hg.1 hg.2.1, rfl⟩) ?_
      intro wN hxN
      simp only [Fin', Sp.recp, List.reverse_cons, List.reverse_nil, List.nil_append, List.cons_append, List.drop_zero, List.take_succ_cons, List.take_zero]
      intro q19 hq19
      simp only [Act.put, List.setIfInBounds_toArray, List.set_cons_zero, List.set_cons_succ]
      replace hX := hX.trans (hxd.trans hxN)
      clear hxd hxN F1 F3
      go_wp2
      go_ret
      exact Keep.intro ⟨by rw [hpe.out]; rfl, hX⟩
    · have hk1 := hide_ (show k + 1 ≤ Mem.plc l t from by
        rcases Nat.lt_or_ge k (Mem.plc l t) with h | h
        · omega
        · obtain rfl : k = Mem.plc l t := by omega
          rw [Mem.plc_at hd0] at c; cases c)
      have hkb : k ≤ 16 := by omega
      clear hge hk hlt hd0
      go_wp2
      refine wp_region_phx (by kernel_rfl) ?_; intro wd hxd; have F1 := f1.ext hxd; have F3 := f3.ext hxd; have J := hr.out.ext TxR.stays (hX.trans hxd)
      refine Ph.rest 0 18 (by kernel_rfl) ?_
      refine LinL.step (s := (.val (.int .i64 (k : Nat)))) [(5, none)] rfl (by kernel_rfl) (op_out 5 (.int .i64 (k : Nat)) rfl (.inl rfl) rfl) ?_
      refine LinL.step (s := (.val (.pointer (some ⟨p, 0, none⟩)))) [(0, none)] rfl (by kernel_rfl) (op_out 0 (.pointer (some ⟨p, 0, none⟩)) rfl (.inl rfl) rfl) ?_
      refine LinL.step (s := (.val (.pointer (some ⟨p, 0, none⟩)))) [(7, some 0)] rfl (by kernel_rfl) (op_runs rfl fun σ w' hx hg => ⟨_, runs_nil (ρ := σ.eval) (w := w') (.tmp 7) rfl hg.1, rfl⟩) ?_
      refine LinL.step (s := (.val (.pointer (some ⟨p, 0, none⟩)))) [(8, some 0)] rfl (by kernel_rfl) (op_runs rfl fun σ w' hx hg => ⟨_, runs_field (ρ := σ.eval) (w := w') Try.stPool (.tmp 8) p 0 rfl hg.1 (by omega), rfl⟩) ?_
      refine LinL.step (s := (.val (v))) [(9, some 0)] rfl (by kernel_rfl) (op_runs rfl fun σ w' hx hg => ⟨_, runs_fload (ρ := σ.eval) (w := w') (.tmp 9) rfl hg.1 (agg_of (by kernel_rfl) _) (F1.ext hx) rfl, rfl⟩) ?_
      refine LinL.step (s := (.val (.int .i64 (l.length : Nat)))) [(10, some 0)] rfl (by kernel_rfl) (op_runs rfl fun σ w' hx hg => ⟨_, runs_rlen (ρ := σ.eval) (w := w') Try.elTx (.tmp 10) rfl hg.1 (J.ext TxR.stays hx), rfl⟩) ?_
      refine LinL.step (s := (.val (.bool true))) [(6, some 5), (11, some 0)] rfl (by kernel_rfl) (op_runs rfl fun σ w' hx hg => ⟨(.bool true), by have h6 : σ.tmps.getD 6 undef = .int .i64 (k : Nat) := hg.1; have h11 : σ.tmps.getD 11 undef = .int .i64 (l.length : Nat) := hg.2.1; unfold Runs execOp; simp [Act.eval, h6, h11, go_sem, t2], rfl⟩) ?_
      refine LinL.step (s := (.val (.bool true))) [(12, some 0)] rfl (by kernel_rfl) (op_copy 12 0 (.val (.bool true)) rfl (.inl rfl) rfl) ?_
      refine LinL.step (s := (.val (.pointer (some ⟨p, 0, none⟩)))) [(0, none), (13, some 0)] rfl (by kernel_rfl) (op_yes (reads := [(0, none)]) 7 13 0 true rfl rfl rfl (op_out 0 (.pointer (some ⟨p, 0, none⟩)) rfl (.inl rfl) rfl)) ?_
      refine LinL.step (s := (.val (.pointer (some ⟨p, 0, none⟩)))) [(14, some 0), (13, some 1)] rfl (by kernel_rfl) (op_yes (reads := [(14, some 0)]) 7 13 1 true rfl rfl rfl (op_runs rfl fun σ w' hx hg => ⟨_, runs_nil (ρ := σ.eval) (w := w') (.tmp 14) rfl hg.1, rfl⟩)) ?_
      refine LinL.step (s := (.val (.pointer (some ⟨p, 0, none⟩)))) [(15, some 0), (13, some 2)] rfl (by kernel_rfl) (op_yes (reads := [(15, some 0)]) 7 13 2 true rfl rfl rfl (op_runs rfl fun σ w' hx hg => ⟨_, runs_field (ρ := σ.eval) (w := w') Try.stPool (.tmp 15) p 0 rfl hg.1 (by omega), rfl⟩)) ?_
      refine LinL.step (s := (.val (v))) [(16, some 0), (13, some 3)] rfl (by kernel_rfl) (op_yes (reads := [(16, some 0)]) 7 13 3 true rfl rfl rfl (op_runs rfl fun σ w' hx hg => ⟨_, runs_fload (ρ := σ.eval) (w := w') (.tmp 16) rfl hg.1 (agg_of (by kernel_rfl) _) (F1.ext hx) rfl, rfl⟩)) ?_
      refine LinL.step (s := (.val (.int .i64 (k : Nat)))) [(5, none), (13, some 4)] rfl (by kernel_rfl) (op_yes (reads := [(5, none)]) 7 13 4 true rfl rfl rfl (op_out 5 (.int .i64 (k : Nat)) rfl (.inl rfl) rfl)) ?_
      refine LinL.step (s := (Sp.recp 2 TxR TxR.stays d)) [(17, some 1), (18, some 0), (13, some 5)] rfl (by kernel_rfl) (op_yes (reads := [(17, some 1), (18, some 0)]) 7 13 5 true rfl rfl rfl (op_runs rfl fun σ w' hx hg => rridx (ρ := σ.eval) (w := w') TxR.stays Try.elTx (.tmp 17) (.tmp 18) k rfl hg.1 hg.2.1 (J.ext TxR.stays hx) hd.out)) ?_
      refine LinL.step (s := (.val (.agg #[.int .i64 d.id, .int .i64 d.fee]))) [(19, some 0), (13, some 6)] rfl (by kernel_rfl) (op_yes (reads := [(19, some 0)]) 7 13 6 true rfl rfl rfl (op_runs rfl fun σ w' hx hg => by obtain ⟨p', row, h1, h2, h3, h4, _⟩ := hg.1; subst h4; exact ⟨_, runs_pload (ρ := σ.eval) (w := w') Try.stTx (.tmp 19) rfl h1 h2 h3, rfl⟩)) ?_
      refine LinL.step (s := (.val (.agg #[.int .i64 t.id, .int .i64 t.fee]))) [(3, none), (13, some 7)] rfl (by kernel_rfl) (op_yes (reads := [(3, none)]) 7 13 7 true rfl rfl rfl (op_runs rfl fun σ w' hx hg => ⟨_, runs_aload (ρ := σ.eval) (w := w') Try.stTx (.tmp 3) rfl hg.1 (F3.ext hx) rfl, rfl⟩)) ?_
      refine LinL.step (s := (.val (.bool true))) [(20, some 1), (21, some 0), (13, some 8)] rfl (by kernel_rfl) (op_yes (reads := [(20, some 1), (21, some 0)]) 7 13 8 true rfl rfl rfl (op_calls 67 #[(.tmp 20), (.tmp 21)] #[30, 30] (fun σ => #[.agg #[.int .i64 d.id, .int .i64 d.fee], .agg #[.int .i64 t.id, .int .i64 t.fee]]) rfl rfl (fun _ _ => rfl) fun σ w' hx hg => ⟨by have h20 : σ.tmps.getD 20 undef = .agg #[.int .i64 d.id, .int .i64 d.fee] := hg.1; have h21 : σ.tmps.getD 21 undef = .agg #[.int .i64 t.id, .int .i64 t.fee] := hg.2.1; simp only [List.map_toArray, List.map_cons, List.map_nil, Act.eval, h20, h21], by have h := Less_any d t w'; rw [c] at h; exact retV h⟩)) ?_
      refine LinL.step (s := (.val (.bool true))) [(13, some 9), (22, some 0)] rfl (by kernel_rfl) (op_runs rfl fun σ w' hx hg => ⟨_, runs_pick_t (ρ := σ.eval) (w := w') (.tmp 13) (.tmp 22) (.const (.bool false)) rfl hg.1 hg.2.1, rfl⟩) ?_
      intro wN hxN
      simp only [Fin', Sp.recp, List.reverse_cons, List.reverse_nil, List.nil_append, List.cons_append, List.drop_zero, List.take_succ_cons, List.take_zero]
      intro q19 hq19
      simp only [Act.put, List.setIfInBounds_toArray, List.set_cons_zero, List.set_cons_succ]
      replace hX := hX.trans (hxd.trans hxN)
      replace f1 := f1.ext (hxd.trans hxN)
      replace f3 := f3.ext (hxd.trans hxN)
      clear hxd hxN F1 F3
      go_wp2
      go_roundw
      case rel => exact ⟨k + 1, by go_num, hk1.out, hX, f1, f3⟩
      case measure => have := hlt'.out; simp [RowKit.intOf]; omega
end Go.Proofs.Ytdacclcaopmalaa
