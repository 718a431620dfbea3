/- A pool of transactions: one more. -/
import Derived.Test.YtdacclcaopmalaaMemB
import Derived.Test.YtdacclcaopmalaaIns
import Derived.Test.YtdacclcaopmalaaRegC
namespace Go.Proofs.Ytdacclcaopmalaa
set_option maxRecDepth 100000
open Go.RowKit

theorem insAt_rows {l : List TxD} {k : Nat} {t : TxD} : (l.map TxD.row).take k ++ t.row :: (l.map TxD.row).drop k = (Mem.insAt l k t).map TxD.row := by
  unfold Mem.insAt
  rw [List.map_append, List.map_cons, List.map_take, List.map_drop]
/-- What region 6 tells of its operations' values. -/
def V6 (p : Nat) (v : Value) (t : TxD) (k : Nat) (i : Nat) (x : Value) : Prop :=
  match i with
  | 4 => x = v
  | 5 => x = .int .i64 (k : Nat)
  | 6 => x = .agg #[.int .i64 t.id, .int .i64 t.fee]
  | _ => x = .pointer (some ⟨p, 0, none⟩)
/-- .. and of the memory: the list of one, the row with it, the pool's cell. -/
def J6 (F1 : Nat → Prop) (w : World) (p : Nat) (t : TxD) (rows : List (List Value)) (m : Nat) (x : Value) (w' : World) : Prop :=
  match m with
  | 0 => Ext w w'
  | 1 => Ext w w' ∧ RowN (fun k => w.heap.size ≤ k) w' 30 2 x [t.row]
  | 2 => Mod F1 w w' ∧ RowN (grow F1 w w') w' 30 2 x rows
  | _ => ∃ x, Mod (fun k => F1 k ∨ k = p) w w' ∧ Fs w' p [x] ∧ RowN (grow F1 w w') w' 30 2 x rows

set_option maxRecDepth 100000 in
set_option maxHeartbeats 6400000 in
theorem PAdd_any {F : Nat → Prop} {w : World} {p : Nat} {l : List TxD} {t : TxD} (h0 : Pl F w p l) (hok : Mem.Ok l) (htraw : t.Raw) :
    Calls Try.prog 13 #[.pointer (some ⟨p, 0, none⟩), .agg #[.int .i64 t.id, .int .i64 t.fee]] w fun e w' => ∃ F', e = .returned (.int .i64 (Mem.add l t).2) ∧ Pl F' w' p (Mem.add l t).1 ∧ Upd F F' w w' := by
  refine calls_keep ?_
  have hP := h0
  have hfew := hide_ hok.few
  have hple := hide_ (Mem.plc_le l t)
  obtain ⟨k, hk0⟩ : ∃ k, Mem.plc l t = k := ⟨_, rfl⟩
  have hk := hide_ hk0
  by_cases hR : t.Right
  rotate_left
  · have ha := hide_ (Mem.add_c1 (l := l) hR)
    have hdec := hide_ (decide_eq_false hR)
    clear hR hok h0 hk0
    go_enter Try.func13, Try.ntmps13
    go_wp2_with ((first
      | (go_at_call 41; refine (Right_any t _).mono ?_; rintro e w4 ⟨rfl, hx⟩; rw [hdec.out]; replace hP := hP.ext hx; replace f3 := f3.ext hx; replace hX := hX.trans hx; clear hx)
      | ((with_reducible refine at_box ?_); refine w_box _ [.int .i64 t.id, .int .i64 t.fee] rfl rfl rfl rfl ?_; intro g3 w1 hg3 hX f3; replace hP := hP.ext hX)
      | ((with_reducible refine at_load ?_); refine w_aload Try.stTx (.tmp 3) rfl rfl rfl f3 rfl ?_)
      | fail) <;> (try simp only [Act.put, List.setIfInBounds_toArray, List.set_cons_zero, List.set_cons_succ]))
    go_ret
    exact Keep.intro ⟨F, by rw [ha.out]; rfl, by rw [ha.out]; exact hP, Upd.ofExt hX F⟩
  have hdec := hide_ (decide_eq_true hR)
  obtain ⟨q, hq⟩ : ∃ q, Mem.hasId l t.id = q := ⟨_, rfl⟩
  have hhas := hide_ hq
  by_cases hc : q = true ∨ 16 ≤ k
  · have ha := hide_ (Mem.add_c2 (l := l) hR (by rw [hq, hk0]; exact hc))
    have hkb : k ≤ 16 := by have := hple.out; have := hfew.out; omega
    cases q
    · have t3 : decide ((16 : Int) ≤ (k : Int)) = true := decide_eq_true (by simp at hc; omega)
      clear hR hok h0 hk0 hq hc
      go_enter Try.func13, Try.ntmps13
      go_wp2_with ((first
        | (go_at_call 41; refine (Right_any t _).mono ?_; rintro e w4 ⟨rfl, hx⟩; rw [hdec.out]; replace hP := hP.ext hx; replace f3 := f3.ext hx; replace hX := hX.trans hx; clear hx)
        | (go_at_call 42; refine (place_any (t := t) hP hfew.out).mono ?_; rintro e w5 ⟨rfl, hx⟩; rw [hk.out]; replace hP := hP.ext hx; replace f3 := f3.ext hx; replace hX := hX.trans hx; clear hx)
        | (go_at_call 43; refine (has_any (n := t.id) hP).mono ?_; rintro e w6 ⟨rfl, hx⟩; rw [hhas.out]; replace hP := hP.ext hx; replace f3 := f3.ext hx; replace hX := hX.trans hx; clear hx)
        | ((with_reducible refine at_box ?_); refine w_box _ [.int .i64 t.id, .int .i64 t.fee] rfl rfl rfl rfl ?_; intro g3 w1 hg3 hX f3; replace hP := hP.ext hX)
        | ((with_reducible refine at_field ?_); refine w_field Try.stTx _ _ _ rfl rfl rfl (by omega) ?_)
        | ((with_reducible refine at_load ?_); refine w_aload Try.stTx (.tmp 3) rfl rfl rfl f3 rfl ?_)
        | ((with_reducible refine at_load ?_); refine w_fload _ rfl rfl rfl f3 rfl (agg_of (by kernel_rfl)) ?_)
        | fail) <;> (try simp only [Act.put, List.setIfInBounds_toArray, List.set_cons_zero, List.set_cons_succ]))
      go_ret
      exact Keep.intro ⟨F, by rw [ha.out]; rfl, by rw [ha.out]; exact hP, Upd.ofExt hX F⟩
    · clear hR hok h0 hk0 hq hc
      go_enter Try.func13, Try.ntmps13
      go_wp2_with ((first
        | (go_at_call 41; refine (Right_any t _).mono ?_; rintro e w4 ⟨rfl, hx⟩; rw [hdec.out]; replace hP := hP.ext hx; replace f3 := f3.ext hx; replace hX := hX.trans hx; clear hx)
        | (go_at_call 42; refine (place_any (t := t) hP hfew.out).mono ?_; rintro e w5 ⟨rfl, hx⟩; rw [hk.out]; replace hP := hP.ext hx; replace f3 := f3.ext hx; replace hX := hX.trans hx; clear hx)
        | (go_at_call 43; refine (has_any (n := t.id) hP).mono ?_; rintro e w6 ⟨rfl, hx⟩; rw [hhas.out]; replace hP := hP.ext hx; replace f3 := f3.ext hx; replace hX := hX.trans hx; clear hx)
        | ((with_reducible refine at_box ?_); refine w_box _ [.int .i64 t.id, .int .i64 t.fee] rfl rfl rfl rfl ?_; intro g3 w1 hg3 hX f3; replace hP := hP.ext hX)
        | ((with_reducible refine at_field ?_); refine w_field Try.stTx _ _ _ rfl rfl rfl (by omega) ?_)
        | ((with_reducible refine at_load ?_); refine w_aload Try.stTx (.tmp 3) rfl rfl rfl f3 rfl ?_)
        | ((with_reducible refine at_load ?_); refine w_fload _ rfl rfl rfl f3 rfl (agg_of (by kernel_rfl)) ?_)
        | fail) <;> (try simp only [Act.put, List.setIfInBounds_toArray, List.set_cons_zero, List.set_cons_succ]))
      go_ret
      exact Keep.intro ⟨F, by rw [ha.out]; rfl, by rw [ha.out]; exact hP, Upd.ofExt hX F⟩
  have hq0 : q = false := by cases q <;> simp_all
  subst hq0
  have hk16 : k < 16 := by omega
  have t3 : decide ((16 : Int) ≤ (k : Int)) = false := decide_eq_false (by omega)
  have ha := hide_ (show Mem.add l t = ((Mem.insAt l k t).take 16, 0) from by rw [Mem.add_c3 hR (by rw [hq, hk0]; exact hc), hk0])
  have hkl := hide_ (show k ≤ l.length from by have := hple.out; omega)
  have htr := hide_ htraw
  clear hR hok h0 hk0 hq hc
  go_enter Try.func13, Try.ntmps13
  go_wp2_with ((first
    | (go_at_call 41; refine (Right_any t _).mono ?_; rintro e w4 ⟨rfl, hx⟩; rw [hdec.out]; replace hP := hP.ext hx; replace f3 := f3.ext hx; replace hX := hX.trans hx; clear hx)
    | (go_at_call 42; refine (place_any (t := t) hP hfew.out).mono ?_; rintro e w5 ⟨rfl, hx⟩; rw [hk.out]; replace hP := hP.ext hx; replace f3 := f3.ext hx; replace hX := hX.trans hx; clear hx)
    | (go_at_call 43; refine (has_any (n := t.id) hP).mono ?_; rintro e w6 ⟨rfl, hx⟩; rw [hhas.out]; replace hP := hP.ext hx; replace f3 := f3.ext hx; replace hX := hX.trans hx; clear hx)
    | ((with_reducible refine at_box ?_); refine w_box _ [.int .i64 t.id, .int .i64 t.fee] rfl rfl rfl rfl ?_; intro g3 w1 hg3 hX f3; replace hP := hP.ext hX)
    | ((with_reducible refine at_field ?_); refine w_field Try.stTx _ _ _ rfl rfl rfl (by omega) ?_)
    | ((with_reducible refine at_load ?_); refine w_aload Try.stTx (.tmp 3) rfl rfl rfl f3 rfl ?_)
    | ((with_reducible refine at_load ?_); refine w_fload _ rfl rfl rfl f3 rfl (agg_of (by kernel_rfl)) ?_)
    | fail) <;> (try simp only [Act.put, List.setIfInBounds_toArray, List.set_cons_zero, List.set_cons_succ]))
  obtain ⟨v, f1, hrow, hraw, hFp, hFl⟩ := hP
  refine wp_region_chain [0, 1, 2, 3, 4, 5, 6, 9, 10] [7, 8, 11] [11] (fun i => [20, 21, 22, 23, 24, 25, 26, 27, 28, 29, 30, 20].getD i 0) (V6 p v t k) (J6 (fun k => F k ∧ k ≠ p) w6 p t ((l.map TxD.row).take k ++ t.row :: (l.map TxD.row).drop k)) (by kernel_rfl) (by kernel_rfl) (by kernel_rfl) (by decide) (by kernel_rfl) (by decide) (by decide) (by decide) (by intro i hi; show _ < 45; revert i; decide) (by kernel_rfl) (fun w1 h => h) ?_ ?_ ?_
  · intro i hi m x b w' hJ hlat hpre hout hdep
    rcases (show i = 0 ∨ i = 1 ∨ i = 2 ∨ i = 3 ∨ i = 4 ∨ i = 5 ∨ i = 6 ∨ i = 9 ∨ i = 10 by simp at hi; omega) with rfl | rfl | rfl | rfl | rfl | rfl | rfl | rfl | rfl
    · have e0 : b.tmps.getD 0 undef = .pointer (some ⟨p, 0, none⟩) := hout 0 (by decide)
      refine wpOp_of_list rfl ?_
      refine w_mvC (.tmp 0) rfl (.inl rfl) e0 ?_
      exact ⟨_, rfl, rfl, hJ⟩
    · have e0 : b.tmps.getD 0 undef = .pointer (some ⟨p, 0, none⟩) := hout 0 (by decide)
      refine wpOp_of_list rfl ?_
      refine w_mvC (.tmp 0) rfl (.inl rfl) e0 ?_
      exact ⟨_, rfl, rfl, hJ⟩
    · have e0 : b.tmps.getD 21 undef = .pointer (some ⟨p, 0, none⟩) := hdep 1 (by decide) (by kernel_rfl)
      refine wpOp_of_list rfl ?_
      refine w_nilC _ rfl rfl e0 ?_
      exact ⟨_, rfl, rfl, hJ⟩
    · have e0 : b.tmps.getD 22 undef = .pointer (some ⟨p, 0, none⟩) := hdep 2 (by decide) (by kernel_rfl)
      refine wpOp_of_list rfl ?_
      refine w_field Try.stPool (.tmp 22) p 0 rfl rfl e0 (by omega) ?_
      exact ⟨_, rfl, rfl, hJ⟩
    · have e0 : b.tmps.getD 23 undef = .pointer (some ⟨p, 0, none⟩) := hdep 3 (by decide) (by kernel_rfl)
      have hm := hlat 1 (by decide) (by kernel_rfl)
      have hx : Ext w6 w' := by
        rcases (show m = 0 ∨ m = 1 by omega) with rfl | rfl
        · exact hJ
        · exact hJ.1
      refine wpOp_of_list rfl ?_
      refine w_fload (.tmp 23) rfl rfl e0 (f1.ext hx) rfl (agg_of (by kernel_rfl)) ?_
      exact ⟨_, rfl, rfl, hJ⟩
    · have e0 : b.tmps.getD 5 undef = .int .i64 (k : Nat) := hout 5 (by decide)
      refine wpOp_of_list rfl ?_
      refine w_mvC (.tmp 5) rfl (.inl rfl) e0 ?_
      exact ⟨_, rfl, rfl, hJ⟩
    · have e0 : b.tmps.getD 3 undef = .pointer (some ⟨g3, 0, none⟩) := hout 3 (by decide)
      have hm := hlat 0 (by decide) (by kernel_rfl)
      obtain rfl : m = 0 := by omega
      refine wpOp_of_list rfl ?_
      refine w_aload Try.stTx (.tmp 3) rfl rfl e0 (f3.ext hJ) rfl ?_
      exact ⟨_, rfl, rfl, hJ⟩
    · have e0 : b.tmps.getD 20 undef = .pointer (some ⟨p, 0, none⟩) := hdep 0 (by decide) (by kernel_rfl)
      refine wpOp_of_list rfl ?_
      refine w_nilC _ rfl rfl e0 ?_
      exact ⟨_, rfl, rfl, hJ⟩
    · have e0 : b.tmps.getD 29 undef = .pointer (some ⟨p, 0, none⟩) := hdep 9 (by decide) (by kernel_rfl)
      refine wpOp_of_list rfl ?_
      refine w_field Try.stPool (.tmp 29) p 0 rfl rfl e0 (by omega) ?_
      exact ⟨_, rfl, rfl, hJ⟩
  · intro m hm x b w' hJ hpr hout hdep
    rcases (show m = 0 ∨ m = 1 ∨ m = 2 by simp at hm; omega) with rfl | rfl | rfl
    · have e6 : b.tmps.getD 26 undef = .agg #[.int .i64 t.id, .int .i64 t.fee] := hdep 6 (by decide) (by kernel_rfl)
      have hx : Ext w6 w' := hJ
      show wpOp _ _ _ 7 _ _ _
      refine wpOp_of_list rfl ?_
      refine w_nnew Try.elTxN [t.row] rfl rfl (by show [(0, b.tmps.getD 26 undef)] = _; rw [e6]; rfl) (by simp [TxD.row]) rfl (by omega) ?_
      intro v2 w2 B hB1 hB2 hx2 hn
      exact ⟨_, rfl, hx.trans hx2, hn.mono fun k hk => Nat.le_trans hx.size (Nat.le_trans hB1 hk.1)⟩
    · obtain ⟨hx, hrx⟩ := hJ
      have e4 : b.tmps.getD 24 undef = v := hdep 4 (by decide) (by kernel_rfl)
      have e5 : b.tmps.getD 25 undef = .int .i64 (k : Nat) := hdep 5 (by decide) (by kernel_rfl)
      have e7 : b.tmps.getD 27 undef = x := hpr (by omega) rfl
      show wpOp _ _ _ 8 _ _ _
      refine wpOp_call 44 #[v, .int .i64 (k : Nat), x] 28 rfl rfl rfl rfl (fun _ _ => rfl) (by simp only [List.map_toArray, List.map_cons, List.map_nil, Act.eval, e4, e5, e7]) ?_
      refine (Insert_any (hrow.ext hx) hrx (fun j hj hf => by have := hFl j hf.1; omega) (by simpa using hkl.out) (by simpa using hfew.out) row_one t.one).mono ?_
      rintro e w2 ⟨v', rfl, hn, hm2⟩
      exact ⟨v', rfl, v', rfl, (hx.mod _).trans hm2 fun _ _ h => h, hn.mono fun j hj => hj.elim .inl fun h => .inr ⟨Nat.le_trans hx.size h.1, h.2⟩⟩
    · obtain ⟨hm1, hr1⟩ := hJ
      have e8 : b.tmps.getD 28 undef = x := hpr (by omega) rfl
      have e10 : b.tmps.getD 30 undef = .pointer (some ⟨p, 0, none⟩) := hdep 10 (by decide) (by kernel_rfl)
      obtain ⟨A, c, hxv, _⟩ := hr1.slS
      show wpOp _ _ _ 11 _ _ _
      refine wpOp_of_list rfl ?_
      refine w_fstore (u := x) (.tmp 30) (.tmp 28) rfl rfl rfl e10 e8 (f1.mod hm1 fun h => h.2 rfl) (by simp) (by rw [hxv]; rfl) (by rw [hxv]; rfl) (by kernel_rfl) ?_
      intro w2 hm2 f2
      refine ⟨undef, rfl, x, (hm1.mono fun _ _ h => .inl h).trans hm2 (fun _ _ e => .inr e), f2, (hr1.mod hm2 fun j hj e => ?_).mono fun j hj => hj.elim .inl fun h => .inr ⟨h.1, Nat.lt_of_lt_of_le h.2 hm2.size⟩⟩
      subst e
      exact hj.elim (fun h => h.2 rfl) fun h => by have := f1.lt; omega
  intro w7 x0 x hJ hv _
  obtain ⟨v9, hm9, f9, hr9⟩ := hJ
  have e5 : x 5 = .int .i64 (k : Nat) := hv 5 (by decide)
  simp only [List.cons_append, List.nil_append, List.foldl_cons, List.foldl_nil]
  generalize x 0 = x0
  generalize x 1 = x1
  generalize x 2 = x2
  generalize x 3 = x3
  generalize x 4 = x4
  generalize x 5 = x5
  generalize x 6 = x6
  generalize x 7 = x7
  generalize x 8 = x8
  generalize x 9 = x9
  generalize x 10 = x10
  generalize x 11 = x11
  simp only [dno, List.contains_cons, List.contains_nil, Bool.or_false, Nat.reduceBEq, Bool.false_eq_true, if_false, if_true, List.getD_cons_zero, List.getD_cons_succ, Act.put, List.setIfInBounds_toArray, List.set_cons_zero, List.set_cons_succ]
  clear hv e5
  rw [insAt_rows] at hr9
  obtain ⟨l2, hl2⟩ : ∃ l2, Mem.insAt l k t = l2 := ⟨_, rfl⟩
  rw [hl2] at hr9
  have hll : l2.length = l.length + 1 := by rw [← hl2, Mem.insAt_len]
  rcases hr9.split with ⟨_, hh⟩ | ⟨g, cap, cs, rfl, hFg, hB, hcl, hnc, hcm, htk⟩
  · have := congrArg List.length hh
    rw [List.length_map, hll] at this; cases this
  rw [List.length_map] at hnc htk
  have hX2 := hide_ (hX.mod (fun k => (F k ∧ k ≠ p) ∨ k = p) |>.trans hm9 fun _ _ h => h)
  have hln : l2.length ≤ 17 := by have := hfew.out; omega
  obtain ⟨mm, hmm⟩ : ∃ mm, min l2.length 16 = mm := ⟨_, rfl⟩
  have hm1 := hide_ (show mm ≤ cap from by omega)
  have hmi : min (l2.length : Int) 16 = (mm : Int) := by omega
  have hmi' := hide_ hmi
  have hrec := hr9.recs (R := TxR) (l := l2) (by simp) (rows_recs rfl fun y hy => by
    rw [← hl2] at hy
    rcases Mem.insAt_mem.1 hy with rfl | hy
    · exact htr.out
    · exact hraw y hy)
  rw [List.length_map] at hrec f9
  go_wp2
  refine wp_region_phx (by kernel_rfl) ?_; intro wd hxd; have F9 := f9.ext hxd; have J := hrec.ext TxR.stays hxd
  refine Ph.gate 0 14 (by kernel_rfl) ?_
  refine LinL.step (s := (.val (.pointer (some ⟨p, 0, none⟩)))) [(0, none)] rfl (by kernel_rfl) (op_out 0 (.pointer (some ⟨p, 0, none⟩)) rfl (.inl rfl) rfl) ?_
  refine LinL.step (s := (.val (.pointer (some ⟨p, 0, none⟩)))) [(0, none)] rfl (by kernel_rfl) (op_out 0 (.pointer (some ⟨p, 0, none⟩)) rfl (.inl rfl) rfl) ?_
  refine LinL.step (s := (.val (.pointer (some ⟨p, 0, none⟩)))) [(32, some 0)] rfl (by kernel_rfl) (op_runs rfl fun σ w' hx hg => ⟨_, runs_nil (ρ := σ.eval) (w := w') (.tmp 32) rfl hg.1, rfl⟩) ?_
  refine LinL.step (s := (.val (.pointer (some ⟨p, 0, none⟩)))) [(33, some 0)] rfl (by kernel_rfl) (op_runs rfl fun σ w' hx hg => ⟨_, runs_field (ρ := σ.eval) (w := w') Try.stPool (.tmp 33) p 0 rfl hg.1 (by omega), rfl⟩) ?_
  refine LinL.step (s := (.val (.slice (some ⟨g, 0, none⟩) l2.length cap))) [(34, some 0)] rfl (by kernel_rfl) (op_runs rfl fun σ w' hx hg => ⟨_, runs_fload (ρ := σ.eval) (w := w') (.tmp 34) rfl hg.1 (agg_of (by kernel_rfl) _) (F9.ext hx) rfl, rfl⟩) ?_
  refine LinL.step (s := (.val (.pointer (some ⟨p, 0, none⟩)))) [(0, none)] rfl (by kernel_rfl) (op_out 0 (.pointer (some ⟨p, 0, none⟩)) rfl (.inl rfl) rfl) ?_
  refine LinL.step (s := (.val (.pointer (some ⟨p, 0, none⟩)))) [(36, some 0)] rfl (by kernel_rfl) (op_runs rfl fun σ w' hx hg => ⟨_, runs_nil (ρ := σ.eval) (w := w') (.tmp 36) rfl hg.1, rfl⟩) ?_
  refine LinL.step (s := (.val (.pointer (some ⟨p, 0, none⟩)))) [(37, some 0)] rfl (by kernel_rfl) (op_runs rfl fun σ w' hx hg => ⟨_, runs_field (ρ := σ.eval) (w := w') Try.stPool (.tmp 37) p 0 rfl hg.1 (by omega), rfl⟩) ?_
  refine LinL.step (s := (.val (.slice (some ⟨g, 0, none⟩) l2.length cap))) [(38, some 0)] rfl (by kernel_rfl) (op_runs rfl fun σ w' hx hg => ⟨_, runs_fload (ρ := σ.eval) (w := w') (.tmp 38) rfl hg.1 (agg_of (by kernel_rfl) _) (F9.ext hx) rfl, rfl⟩) ?_
  refine LinL.step (s := (.val (.int .i64 (l2.length : Nat)))) [(39, some 0)] rfl (by kernel_rfl) (op_runs rfl fun σ w' hx hg => ⟨_, runs_rlen (ρ := σ.eval) (w := w') Try.elTx (.tmp 39) rfl hg.1 (J.ext TxR.stays hx), rfl⟩) ?_
  refine LinL.step (s := (.val (.int .i64 (mm : Nat)))) [(40, some 0)] rfl (by kernel_rfl) (op_runs rfl fun σ w' hx hg => ⟨_, runs_min (ρ := σ.eval) (w := w') (.tmp 40) (.const (.int .i64 16)) ((mm : Nat)) (by omega) rfl hg.1 rfl, rfl⟩) ?_
  refine LinL.step (s := (.val (.slice (some ⟨g, 0, none⟩) mm cap))) [(35, some 6), (41, some 0)] rfl (by kernel_rfl) (op_runs rfl fun σ w' hx hg => ⟨_, runs_sto (ρ := σ.eval) (w := w') Try.elTx (.tmp 35) (.tmp 41) rfl hg.1 hg.2.1 hm1.out, rfl⟩) ?_
  refine LinL.step (s := (.val (.pointer (some ⟨p, 0, none⟩)))) [(31, some 11)] rfl (by kernel_rfl) (op_runs rfl fun σ w' hx hg => ⟨_, runs_nil (ρ := σ.eval) (w := w') (.tmp 31) rfl hg.1, rfl⟩) ?_
  refine LinL.step (s := (.val (.pointer (some ⟨p, 0, none⟩)))) [(43, some 0)] rfl (by kernel_rfl) (op_runs rfl fun σ w' hx hg => ⟨_, runs_field (ρ := σ.eval) (w := w') Try.stPool (.tmp 43) p 0 rfl hg.1 (by omega), rfl⟩) ?_
  intro wN hxN
  simp only [Fin', List.reverse_cons, List.reverse_nil, List.nil_append, List.cons_append, List.drop_zero, List.take_succ_cons, List.take_zero]
  simp only [Act.put, List.setIfInBounds_toArray, List.set_cons_zero, List.set_cons_succ]
  refine wpOp_of_list rfl ?_
  refine w_fstore (u := .slice (some ⟨g, 0, none⟩) mm cap) _ _ rfl rfl rfl rfl rfl (f9.ext (hxd.trans hxN)) (by simp) rfl rfl (by kernel_rfl) ?_; intro w8 hm8 f8
  show Ph Try.prog _ _ 15 _ _
  refine Ph.rest 15 0 (by kernel_rfl) ?_
  intro wM hxM
  simp only [Fin', List.reverse_nil, List.drop_zero, List.drop_succ_cons, List.take_zero]
  go_wp2
  go_ret
  have hm7 := (hX2.out.trans (((hxd.trans hxN).mod (fun k => (F k ∧ k ≠ p) ∨ k = p)).trans hm8 fun _ _ e => .inr e) fun _ _ h => h).trans (hxM.mod _) fun _ _ h => h
  have hsz := hX2.out.size
  have hgp : g ≠ p := fun e => by
    subst e
    exact hFg.elim (fun h => h.2 rfl) fun h => by have := f1.lt; omega
  have hB2 := ((hB.ext (hxd.trans hxN)).mod hm8 hgp).ext hxM
  have hsM : w7.heap.size ≤ wM.heap.size := Nat.le_trans (Nat.le_trans (hxd.trans hxN).size hm8.size) hxM.size
  have hlm : (l2.take 16).length = mm := by rw [List.length_take]; omega
  refine Keep.intro ⟨grow F w wM, by rw [ha.out]; rfl, ?_, hm7.mono fun k _ h => h.elim And.left fun e => e ▸ hFp, fun k hk => hk⟩
  rw [ha.out, hl2]
  refine ⟨_, f8.ext hxM, ?_, fun y hy => ?_, .inl hFp, fun k hk => hk.elim (fun h => Nat.lt_of_lt_of_le (Nat.lt_of_lt_of_le (hFl k h) hm9.size) ?_) And.right⟩
  · have hr2 := RowN.ofBlk (F := fun k => grow F w wM k ∧ k ≠ p) (rows := (l2.take 16).map TxD.row) (n := 2) hB2 hcl (by rw [List.length_map, hlm]; exact hm1.out) hcm (fun r hr => by obtain ⟨y, _, rfl⟩ := List.mem_map.1 hr; rfl) ?_ ⟨?_, hgp⟩
    · rw [List.length_map, hlm] at hr2; exact hr2
    · rw [List.length_map, hlm, List.map_take, ← flat_take (n := 2) (fun r hr => by obtain ⟨y, _, rfl⟩ := List.mem_map.1 hr; rfl), ← htk, List.take_take]
      congr 1; omega
    · exact hFg.elim (fun h => .inl h.1) fun h => .inr ⟨Nat.le_trans hX.size h.1, Nat.lt_of_lt_of_le h.2 hsM⟩
  · have hy2 := List.mem_of_mem_take hy
    rw [← hl2] at hy2
    rcases Mem.insAt_mem.1 hy2 with rfl | hy2
    · exact htr.out
    · exact hraw y hy2
  · exact hsM
end Go.Proofs.Ytdacclcaopmalaa
