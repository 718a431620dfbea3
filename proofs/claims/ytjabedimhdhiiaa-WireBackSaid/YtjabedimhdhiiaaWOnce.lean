/- The statement WireOnce: bytes that are read are just the bytes that were written, so unlike bytes say unlike things. No condition. -/
import Derived.Test.YtjabedimhdhiiaaWCuts
namespace Go.Proofs.Ytjabedimhdhiiaa
open Go.RowKit Go.ChangeShapes Go.WideShapes Go.ChangeAt

theorem bytes_ext {a b : ByteArray} (h : a.toList = b.toList) : a = b := by
  rw [ByteArray.toList_eq, ByteArray.toList_eq] at h
  exact ByteArray.ext (Array.toList_inj.1 h)

theorem strN_size (l : List Nat) : (strN l).size = l.length := by simp [strN, ByteArray.size]

theorem runs_cat {P : Program} {o : Oper} {ρ : Operand → Value} {w : World} {t t' : TypeId} {a b c : ByteArray} (x y : Operand) (ho : o.op = .binOp .add t x y t') (hx : ρ x = .string a) (hy : ρ y = .string b) (hc : a ++ b = c) (hs : a.size + b.size ≤ 9223372036854775807) : Runs P o ρ w (.string c) := by
  subst hc
  unfold Runs execOp
  simp [ho, hx, hy, eqGuard_add, binOp, run_string_add_sum (P := P) (w := w) a b hs]
theorem w_cat {P : Program} {ops : Array Oper} {rest : List Oper} {o : Oper} {a : Act} {Q : Exit → Act → World → Prop} {w : World} {t t' : TypeId} {x y z : ByteArray} (s u : Operand) (hgd : o.guard = none) (ho : o.op = .binOp .add t s u t')
    (hx : a.eval s = .string x) (hy : a.eval u = .string y) (hc : x ++ y = z) (hs : x.size + y.size ≤ 9223372036854775807) (k : wpList P ops Q rest (a.put o.dst (.string z)) w) : wpList P ops Q (o :: rest) a w :=
  wpList_runs hgd (runs_cat s u ho hx hy hc hs) k

theorem numR (n : Nat) (w : World) (hn : W64 n) : Calls Try.prog 14 #[.int .u64 n] w fun e w' => ∃ v', e = .returned v' ∧ Ext w w' ∧ Sp.p (.sl (u8s (numL n))) v' w' :=
  (Num_any n w hn).mono fun _ _ ⟨v', he, ho, hx⟩ => ⟨v', he, hx, ho.byt⟩

theorem rd_whole {l : List Nat} (hl : ∀ x ∈ l, x < 256) (h : (rd l).2 ≠ 0) : numL (rd l).1 ++ rdRest l = l ∧ W64 (rd l).1 := by
  obtain ⟨h1, h2, h3⟩ := rd_some hl h
  refine ⟨?_, h3⟩
  rw [rdRest, if_neg h, h2]
  exact List.prefix_iff_eq_append.1 h1

theorem rt_whole {l : List Nat} (hl : ∀ x ∈ l, x < 256) (h : RtOk l) : txErr (rtL l) = 0 ∧ txL (rtL l) ++ rtRest l = l ∧ (∀ x ∈ rtL l, x < 256) ∧ (∀ x ∈ rtRest l, x < 256) := by
  have h' := h
  obtain ⟨h0, h1, h2⟩ := h
  have hlen : (rtL l).length = (rd l).1 := by rw [rtL, if_pos h']; simp; omega
  obtain ⟨hw, -⟩ := rd_whole hl h0
  refine ⟨by rw [txErr, if_neg (by omega)], ?_, ?_, ?_⟩
  · rw [txL, if_neg (by omega), hlen, rtL, rtRest, if_pos h', if_pos h']
    conv => rhs; rw [← hw]
    rw [rdRest, if_neg h0, List.append_assoc]
    congr 1
    rw [List.drop_take, show (rd l).2 + (rd l).1 - (rd l).2 = (rd l).1 from by omega]
    have := List.take_append_drop (rd l).1 (l.drop (rd l).2)
    rw [List.drop_drop] at this; exact this
  · intro x hx; rw [rtL, if_pos h'] at hx; exact hl x (List.mem_of_mem_take (List.mem_of_mem_drop hx))
  · intro x hx; rw [rtRest, if_pos h'] at hx; exact hl x (List.mem_of_mem_drop hx)

theorem rdRest_lt {l : List Nat} (hl : ∀ x ∈ l, x < 256) : ∀ x ∈ rdRest l, x < 256 := by
  intro x hx; rw [rdRest] at hx
  split at hx
  · simp at hx
  · exact hl x (List.mem_of_mem_drop hx)

set_option maxRecDepth 100000 in
set_option maxHeartbeats 2000000 in
theorem once_no_yes (va vb : Value) (la lb : List Nat) (W : World) (ha : Byt W va la) (hb : Byt W vb lb) (hla : ∀ x ∈ la, x < 256) (hlb : ∀ x ∈ lb, x < 256) (hna : la.length ≤ 140737488355328) (hnb : lb.length ≤ 140737488355328) (hA : (rd la).2 = 0) (hT : RtOk la) :
    Calls Try.prog 8 #[va, vb] W fun e w' => e = .returned (.bool true) ∧ Ext W w' := by
  refine calls_keep ?_
  have hba : ([] : List Nat).length + la.length ≤ 140737488355328 := by simpa using hna
  have hbb : ([] : List Nat).length + lb.length ≤ 140737488355328 := by simpa using hnb
  have Ea := hide_ (show rdErr la = 11 from by rw [rdErr, if_pos hA])
  obtain ⟨hx0, hx1, hx2, hx3⟩ := rt_whole hla hT
  have T1 := hide_ hx0
  have T2 := hide_ (show rtErr la = 0 from by rw [rtErr, if_pos hT])
  have T3 : strN (txL (rtL la)) ++ strN (rtRest la) = strN la := by rw [← strN_append, hx1]
  have hT3 : (strN (txL (rtL la))).size + (strN (rtRest la)).size ≤ 9223372036854775807 := by
    rw [strN_size, strN_size, ← List.length_append, hx1]; omega
  clear hx0 hx1 hx2 hx3
  clear hT hA
  go_enter Try.func8, Try.ntmps8
  go_upto_region 5 with (first
    | (go_at_call 12; refine (alive_any _).mono ?_; rintro e w1 ⟨rfl, hx1⟩; have H1 := ha.ext hx1; have H2 := hb.ext hx1)
    | (at_builtin; refine appb (.tmp 19) (.tmp 20) rfl rfl rfl rfl own_empty (H1.ext ((Ext.refl _).alloc _)) hba (by simp) ?_; intro v2 w2 ho2 hb2 hg2; have H3 := ho2.byt; have hx2 := ext_alloc_below hb2; clear ho2 hb2 hg2)
    | (go_at_call 11; refine (ReadNum_any v2 la _ hla H3 (by omega)).mono ?_; rintro e w3 ⟨v3, rfl, ho3, hx3⟩; have H4 := ho3.byt; have H5 := (H1.ext hx2).ext hx3; have H6 := (H2.ext hx2).ext hx3; clear ho3 H1 H2 H3)
    | (at_builtin; refine appb (.tmp 27) (.tmp 28) rfl rfl rfl rfl own_empty (H6.ext ((Ext.refl _).alloc _)) hbb (by simp) ?_; intro v4 w4 ho4 hb4 hg4; have H7 := ho4.byt; have hx4 := ext_alloc_below hb4; clear ho4 hb4 hg4)
    | (go_at_call 11; refine (ReadNum_any v4 lb _ hlb H7 (by omega)).mono ?_; rintro e w5 ⟨v5, rfl, ho5, hx5⟩; have K3 := ho5.byt.ext (Ext.refl _).drew; have K2 := ((H4.ext hx4).ext hx5).ext (Ext.refl _).drew; have K0 := ((H5.ext hx4).ext hx5).ext (Ext.refl _).drew; have K1 := ((H6.ext hx4).ext hx5).ext (Ext.refl _).drew; have hX := ((((hx1.trans hx2).trans hx3).trans hx4).trans hx5).drew; clear ho5 H4 H5 H6 H7))
  rw [Ea.out]
  refine wp_region_linR (by kernel_rfl) (by kernel_rfl) ?_
  refine LinR.step (s := (.val (.int .i64 11))) [(7, none)] rfl (by kernel_rfl) (op_out 7 (.int .i64 11) rfl (.inl rfl) rfl) ?_
  refine LinR.step (s := (.val (.bool false))) [(34, some 0)] rfl (by kernel_rfl) (op_runs rfl fun σ w' hx hg => ⟨(.bool false), by have h34 : σ.tmps.getD 34 undef = .int .i64 11 := hg.1; unfold Runs execOp; simp [Act.eval, h34, go_sem], rfl⟩) ?_
  refine LinR.step (s := (.val (.bool false))) [(35, some 0)] rfl (by kernel_rfl) (op_copy 35 0 (.val (.bool false)) rfl (.inl rfl) rfl) ?_
  refine LinR.step (s := .val undef) [(5, none), (36, some 0)] rfl (by kernel_rfl) (op_no (reads := [(5, none)]) 2 36 0 true rfl rfl rfl) ?_
  refine LinR.step (s := .val undef) [(37, some 0), (36, some 1)] rfl (by kernel_rfl) (op_no (reads := [(37, some 0)]) 2 36 1 true rfl rfl rfl) ?_
  refine LinR.step (s := .val undef) [(38, some 0), (36, some 2)] rfl (by kernel_rfl) (op_no (reads := [(38, some 0)]) 2 36 2 true rfl rfl rfl) ?_
  refine LinR.step (s := .val undef) [(6, none), (36, some 3)] rfl (by kernel_rfl) (op_no (reads := [(6, none)]) 2 36 3 true rfl rfl rfl) ?_
  refine LinR.step (s := .val undef) [(40, some 0), (36, some 4)] rfl (by kernel_rfl) (op_no (reads := [(40, some 0)]) 2 36 4 true rfl rfl rfl) ?_
  refine LinR.step (s := .val undef) [(39, some 2), (41, some 0), (36, some 5)] rfl (by kernel_rfl) (op_no (reads := [(39, some 2), (41, some 0)]) 2 36 5 true rfl rfl rfl) ?_
  refine LinR.step (s := .val undef) [(0, none), (36, some 6)] rfl (by kernel_rfl) (op_no (reads := [(0, none)]) 2 36 6 true rfl rfl rfl) ?_
  refine LinR.step (s := .val undef) [(43, some 0), (36, some 7)] rfl (by kernel_rfl) (op_no (reads := [(43, some 0)]) 2 36 7 true rfl rfl rfl) ?_
  refine LinR.step (s := .val undef) [(42, some 2), (44, some 0), (36, some 8)] rfl (by kernel_rfl) (op_no (reads := [(42, some 2), (44, some 0)]) 2 36 8 true rfl rfl rfl) ?_
  refine LinR.step (s := (.val (.bool false))) [(36, some 9), (45, some 0)] rfl (by kernel_rfl) (op_runs rfl fun σ w' hx hg => ⟨(.bool false), runs_pick_f (ρ := σ.eval) (w := w') (.tmp 36) (.tmp 45) (.const (.bool false)) rfl hg.1 rfl, rfl⟩) ?_
  refine LinR.step (s := (.val (.bool false))) [(46, some 0)] rfl (by kernel_rfl) (op_copy 46 0 (.val (.bool false)) rfl (.inl rfl) rfl) ?_
  refine LinR.step (s := (.val (.int .i64 11))) [(7, none), (47, some 0)] rfl (by kernel_rfl) (op_yes (reads := [(7, none)]) 13 47 0 false rfl rfl rfl (op_out 7 (.int .i64 11) rfl (.inl rfl) rfl)) ?_
  refine LinR.step (s := (.val (.bool false))) [(48, some 0), (47, some 1)] rfl (by kernel_rfl) (op_yes (reads := [(48, some 0)]) 13 47 1 false rfl rfl rfl (op_runs rfl fun σ w' hx hg => ⟨(.bool false), by have h48 : σ.tmps.getD 48 undef = .int .i64 11 := hg.1; unfold Runs execOp; simp [Act.eval, h48, go_sem], rfl⟩)) ?_
  refine LinR.step (s := (.val (.bool false))) [(49, some 0), (47, some 2)] rfl (by kernel_rfl) (op_yes (reads := [(49, some 0)]) 13 47 2 false rfl rfl rfl (op_copy 49 0 (.val (.bool false)) rfl (.inl rfl) rfl)) ?_
  refine LinR.step (s := .val undef) [(10, none), (50, some 0)] rfl (by kernel_rfl) (op_no (reads := [(10, none)]) 16 50 0 true rfl rfl rfl) ?_
  refine LinR.step (s := .val undef) [(51, some 0), (50, some 1)] rfl (by kernel_rfl) (op_no (reads := [(51, some 0)]) 16 50 1 true rfl rfl rfl) ?_
  refine LinR.step (s := (.val (.bool false))) [(50, some 2), (52, some 0), (47, some 5)] rfl (by kernel_rfl) (op_yes (reads := [(50, some 2), (52, some 0)]) 13 47 5 false rfl rfl rfl (op_runs rfl fun σ w' hx hg => ⟨(.bool false), runs_pick_f (ρ := σ.eval) (w := w') (.tmp 50) (.tmp 52) (.const (.bool false)) rfl hg.1 rfl, rfl⟩)) ?_
  refine LinR.step (s := (.val (.bool false))) [(53, some 0), (47, some 6)] rfl (by kernel_rfl) (op_yes (reads := [(53, some 0)]) 13 47 6 false rfl rfl rfl (op_copy 53 0 (.val (.bool false)) rfl (.inl rfl) rfl)) ?_
  refine LinR.step (s := .val undef) [(5, none), (54, some 0)] rfl (by kernel_rfl) (op_no (reads := [(5, none)]) 20 54 0 true rfl rfl rfl) ?_
  refine LinR.step (s := .val undef) [(8, none), (54, some 1)] rfl (by kernel_rfl) (op_no (reads := [(8, none)]) 20 54 1 true rfl rfl rfl) ?_
  refine LinR.step (s := .val undef) [(55, some 1), (56, some 0), (54, some 2)] rfl (by kernel_rfl) (op_no (reads := [(55, some 1), (56, some 0)]) 20 54 2 true rfl rfl rfl) ?_
  refine LinR.step (s := .val undef) [(57, some 0), (54, some 3)] rfl (by kernel_rfl) (op_no (reads := [(57, some 0)]) 20 54 3 true rfl rfl rfl) ?_
  refine LinR.step (s := .val undef) [(6, none), (58, some 0)] rfl (by kernel_rfl) (op_no' (reads := [(6, none)]) 24 58 0 true rfl rfl rfl) ?_
  refine LinR.step (s := .val undef) [(59, some 0), (58, some 1)] rfl (by kernel_rfl) (op_no' (reads := [(59, some 0)]) 24 58 1 true rfl rfl rfl) ?_
  refine LinR.step (s := .val undef) [(9, none), (58, some 2)] rfl (by kernel_rfl) (op_no' (reads := [(9, none)]) 24 58 2 true rfl rfl rfl) ?_
  refine LinR.step (s := .val undef) [(61, some 0), (58, some 3)] rfl (by kernel_rfl) (op_no' (reads := [(61, some 0)]) 24 58 3 true rfl rfl rfl) ?_
  refine LinR.step (s := .val undef) [(60, some 2), (62, some 0), (58, some 4)] rfl (by kernel_rfl) (op_no' (reads := [(60, some 2), (62, some 0)]) 24 58 4 true rfl rfl rfl) ?_
  refine LinR.step (s := .val undef) [(58, some 5), (63, some 0), (54, some 9)] rfl (by kernel_rfl) (op_no (reads := [(58, some 5), (63, some 0)]) 20 54 9 true rfl rfl rfl) ?_
  refine LinR.step (s := .val undef) [(0, none), (54, some 10)] rfl (by kernel_rfl) (op_no (reads := [(0, none)]) 20 54 10 true rfl rfl rfl) ?_
  refine LinR.step (s := .val undef) [(65, some 0), (54, some 11)] rfl (by kernel_rfl) (op_no (reads := [(65, some 0)]) 20 54 11 true rfl rfl rfl) ?_
  refine LinR.step (s := .val undef) [(1, none), (54, some 12)] rfl (by kernel_rfl) (op_no (reads := [(1, none)]) 20 54 12 true rfl rfl rfl) ?_
  refine LinR.step (s := .val undef) [(67, some 0), (54, some 13)] rfl (by kernel_rfl) (op_no (reads := [(67, some 0)]) 20 54 13 true rfl rfl rfl) ?_
  refine LinR.step (s := .val undef) [(66, some 2), (68, some 0), (54, some 14)] rfl (by kernel_rfl) (op_no (reads := [(66, some 2), (68, some 0)]) 20 54 14 true rfl rfl rfl) ?_
  refine LinR.step (s := .val undef) [(64, some 5), (69, some 0), (54, some 15)] rfl (by kernel_rfl) (op_no (reads := [(64, some 5), (69, some 0)]) 20 54 15 true rfl rfl rfl) ?_
  refine LinR.step (s := (.val (.bool false))) [(54, some 16), (70, some 0), (47, some 23)] rfl (by kernel_rfl) (op_yes (reads := [(54, some 16), (70, some 0)]) 13 47 23 false rfl rfl rfl (op_runs rfl fun σ w' hx hg => ⟨(.bool false), runs_pick_f (ρ := σ.eval) (w := w') (.tmp 54) (.tmp 70) (.const (.bool false)) rfl hg.1 rfl, rfl⟩)) ?_
  refine LinR.step (s := (.val (.bool false))) [(47, some 24), (71, some 0)] rfl (by kernel_rfl) (op_runs rfl fun σ w' hx hg => ⟨(.bool false), runs_pick_f (ρ := σ.eval) (w := w') (.tmp 47) (.const (.bool true)) (.tmp 71) rfl hg.1 hg.2.1, rfl⟩) ?_
  intro wN hxN
  simp only [Fin', Sp.ptr, List.reverse_cons, List.reverse_nil, List.nil_append, List.cons_append]
  simp only [Act.put, List.setIfInBounds_toArray, List.set_cons_zero, List.set_cons_succ]
  have L0 := K0.ext hxN
  have hY := hX.trans hxN
  clear K0 K1 K2 K3 hX hxN
  go_wp2_with (first
    | (at_builtin; refine appb (.tmp 74) (.tmp 75) rfl rfl rfl rfl own_empty (L0.ext ((Ext.refl _).alloc _)) hba (by simp) ?_; intro v6 w6 ho6 hb6 hg6; have L1 := ho6.byt; have hx6 := ext_alloc_below hb6; clear ho6 hb6 hg6)
    | (go_at_call 23; refine (ReadText_any v6 la _ hla L1 (by omega)).mono ?_; rintro e w7 ⟨v7, v8, rfl, L2, L3, hx7⟩; have L4 := (L0.ext hx6).ext hx7; have hZ := (hY.trans hx6).trans hx7; clear L0 L1 hY; rw [T2.out])
    | (go_at_call 21; refine (Text_any v7 _ _ L2).mono ?_; rintro e w8 ⟨v9, rfl, ho8, hx8⟩; have L5 := ho8.byt; have L6 := L3.ext hx8; have L7 := L4.ext hx8; have hZ' := hZ.trans hx8; clear ho8 L2 L3 L4 hZ; rw [T1.out])
    | (refine w_yes _ _ _ rfl rfl rfl ?_; refine w_cat _ _ rfl rfl rfl rfl T3 hT3 ?_)
    | (refine w_str _ rfl rfl rfl (by assumption) ?_)
    | (refine w_yes _ _ _ rfl rfl rfl ?_; refine w_str _ rfl rfl rfl (by assumption) ?_)
    | (refine b_len _ rfl rfl rfl (by assumption) ?_))
  go_ret
  exact Keep.intro ⟨rfl, hZ'⟩

set_option maxRecDepth 100000 in
set_option maxHeartbeats 2000000 in
theorem once_no_no (va vb : Value) (la lb : List Nat) (W : World) (ha : Byt W va la) (hb : Byt W vb lb) (hla : ∀ x ∈ la, x < 256) (hlb : ∀ x ∈ lb, x < 256) (hna : la.length ≤ 140737488355328) (hnb : lb.length ≤ 140737488355328) (hA : (rd la).2 = 0) (hT : ¬ RtOk la) :
    Calls Try.prog 8 #[va, vb] W fun e w' => e = .returned (.bool true) ∧ Ext W w' := by
  refine calls_keep ?_
  have hba : ([] : List Nat).length + la.length ≤ 140737488355328 := by simpa using hna
  have hbb : ([] : List Nat).length + lb.length ≤ 140737488355328 := by simpa using hnb
  have Ea := hide_ (show rdErr la = 11 from by rw [rdErr, if_pos hA])
  have T1 := hide_ (show rtL la = [] from by rw [rtL, if_neg hT])
  have T3 := hide_ (show rtRest la = [] from by rw [rtRest, if_neg hT])
  have T2 := hide_ (show rtErr la = 11 from by rw [rtErr, if_neg hT])
  clear hT hA
  go_enter Try.func8, Try.ntmps8
  go_upto_region 5 with (first
    | (go_at_call 12; refine (alive_any _).mono ?_; rintro e w1 ⟨rfl, hx1⟩; have H1 := ha.ext hx1; have H2 := hb.ext hx1)
    | (at_builtin; refine appb (.tmp 19) (.tmp 20) rfl rfl rfl rfl own_empty (H1.ext ((Ext.refl _).alloc _)) hba (by simp) ?_; intro v2 w2 ho2 hb2 hg2; have H3 := ho2.byt; have hx2 := ext_alloc_below hb2; clear ho2 hb2 hg2)
    | (go_at_call 11; refine (ReadNum_any v2 la _ hla H3 (by omega)).mono ?_; rintro e w3 ⟨v3, rfl, ho3, hx3⟩; have H4 := ho3.byt; have H5 := (H1.ext hx2).ext hx3; have H6 := (H2.ext hx2).ext hx3; clear ho3 H1 H2 H3)
    | (at_builtin; refine appb (.tmp 27) (.tmp 28) rfl rfl rfl rfl own_empty (H6.ext ((Ext.refl _).alloc _)) hbb (by simp) ?_; intro v4 w4 ho4 hb4 hg4; have H7 := ho4.byt; have hx4 := ext_alloc_below hb4; clear ho4 hb4 hg4)
    | (go_at_call 11; refine (ReadNum_any v4 lb _ hlb H7 (by omega)).mono ?_; rintro e w5 ⟨v5, rfl, ho5, hx5⟩; have K3 := ho5.byt.ext (Ext.refl _).drew; have K2 := ((H4.ext hx4).ext hx5).ext (Ext.refl _).drew; have K0 := ((H5.ext hx4).ext hx5).ext (Ext.refl _).drew; have K1 := ((H6.ext hx4).ext hx5).ext (Ext.refl _).drew; have hX := ((((hx1.trans hx2).trans hx3).trans hx4).trans hx5).drew; clear ho5 H4 H5 H6 H7))
  rw [Ea.out]
  refine wp_region_linR (by kernel_rfl) (by kernel_rfl) ?_
  refine LinR.step (s := (.val (.int .i64 11))) [(7, none)] rfl (by kernel_rfl) (op_out 7 (.int .i64 11) rfl (.inl rfl) rfl) ?_
  refine LinR.step (s := (.val (.bool false))) [(34, some 0)] rfl (by kernel_rfl) (op_runs rfl fun σ w' hx hg => ⟨(.bool false), by have h34 : σ.tmps.getD 34 undef = .int .i64 11 := hg.1; unfold Runs execOp; simp [Act.eval, h34, go_sem], rfl⟩) ?_
  refine LinR.step (s := (.val (.bool false))) [(35, some 0)] rfl (by kernel_rfl) (op_copy 35 0 (.val (.bool false)) rfl (.inl rfl) rfl) ?_
  refine LinR.step (s := .val undef) [(5, none), (36, some 0)] rfl (by kernel_rfl) (op_no (reads := [(5, none)]) 2 36 0 true rfl rfl rfl) ?_
  refine LinR.step (s := .val undef) [(37, some 0), (36, some 1)] rfl (by kernel_rfl) (op_no (reads := [(37, some 0)]) 2 36 1 true rfl rfl rfl) ?_
  refine LinR.step (s := .val undef) [(38, some 0), (36, some 2)] rfl (by kernel_rfl) (op_no (reads := [(38, some 0)]) 2 36 2 true rfl rfl rfl) ?_
  refine LinR.step (s := .val undef) [(6, none), (36, some 3)] rfl (by kernel_rfl) (op_no (reads := [(6, none)]) 2 36 3 true rfl rfl rfl) ?_
  refine LinR.step (s := .val undef) [(40, some 0), (36, some 4)] rfl (by kernel_rfl) (op_no (reads := [(40, some 0)]) 2 36 4 true rfl rfl rfl) ?_
  refine LinR.step (s := .val undef) [(39, some 2), (41, some 0), (36, some 5)] rfl (by kernel_rfl) (op_no (reads := [(39, some 2), (41, some 0)]) 2 36 5 true rfl rfl rfl) ?_
  refine LinR.step (s := .val undef) [(0, none), (36, some 6)] rfl (by kernel_rfl) (op_no (reads := [(0, none)]) 2 36 6 true rfl rfl rfl) ?_
  refine LinR.step (s := .val undef) [(43, some 0), (36, some 7)] rfl (by kernel_rfl) (op_no (reads := [(43, some 0)]) 2 36 7 true rfl rfl rfl) ?_
  refine LinR.step (s := .val undef) [(42, some 2), (44, some 0), (36, some 8)] rfl (by kernel_rfl) (op_no (reads := [(42, some 2), (44, some 0)]) 2 36 8 true rfl rfl rfl) ?_
  refine LinR.step (s := (.val (.bool false))) [(36, some 9), (45, some 0)] rfl (by kernel_rfl) (op_runs rfl fun σ w' hx hg => ⟨(.bool false), runs_pick_f (ρ := σ.eval) (w := w') (.tmp 36) (.tmp 45) (.const (.bool false)) rfl hg.1 rfl, rfl⟩) ?_
  refine LinR.step (s := (.val (.bool false))) [(46, some 0)] rfl (by kernel_rfl) (op_copy 46 0 (.val (.bool false)) rfl (.inl rfl) rfl) ?_
  refine LinR.step (s := (.val (.int .i64 11))) [(7, none), (47, some 0)] rfl (by kernel_rfl) (op_yes (reads := [(7, none)]) 13 47 0 false rfl rfl rfl (op_out 7 (.int .i64 11) rfl (.inl rfl) rfl)) ?_
  refine LinR.step (s := (.val (.bool false))) [(48, some 0), (47, some 1)] rfl (by kernel_rfl) (op_yes (reads := [(48, some 0)]) 13 47 1 false rfl rfl rfl (op_runs rfl fun σ w' hx hg => ⟨(.bool false), by have h48 : σ.tmps.getD 48 undef = .int .i64 11 := hg.1; unfold Runs execOp; simp [Act.eval, h48, go_sem], rfl⟩)) ?_
  refine LinR.step (s := (.val (.bool false))) [(49, some 0), (47, some 2)] rfl (by kernel_rfl) (op_yes (reads := [(49, some 0)]) 13 47 2 false rfl rfl rfl (op_copy 49 0 (.val (.bool false)) rfl (.inl rfl) rfl)) ?_
  refine LinR.step (s := .val undef) [(10, none), (50, some 0)] rfl (by kernel_rfl) (op_no (reads := [(10, none)]) 16 50 0 true rfl rfl rfl) ?_
  refine LinR.step (s := .val undef) [(51, some 0), (50, some 1)] rfl (by kernel_rfl) (op_no (reads := [(51, some 0)]) 16 50 1 true rfl rfl rfl) ?_
  refine LinR.step (s := (.val (.bool false))) [(50, some 2), (52, some 0), (47, some 5)] rfl (by kernel_rfl) (op_yes (reads := [(50, some 2), (52, some 0)]) 13 47 5 false rfl rfl rfl (op_runs rfl fun σ w' hx hg => ⟨(.bool false), runs_pick_f (ρ := σ.eval) (w := w') (.tmp 50) (.tmp 52) (.const (.bool false)) rfl hg.1 rfl, rfl⟩)) ?_
  refine LinR.step (s := (.val (.bool false))) [(53, some 0), (47, some 6)] rfl (by kernel_rfl) (op_yes (reads := [(53, some 0)]) 13 47 6 false rfl rfl rfl (op_copy 53 0 (.val (.bool false)) rfl (.inl rfl) rfl)) ?_
  refine LinR.step (s := .val undef) [(5, none), (54, some 0)] rfl (by kernel_rfl) (op_no (reads := [(5, none)]) 20 54 0 true rfl rfl rfl) ?_
  refine LinR.step (s := .val undef) [(8, none), (54, some 1)] rfl (by kernel_rfl) (op_no (reads := [(8, none)]) 20 54 1 true rfl rfl rfl) ?_
  refine LinR.step (s := .val undef) [(55, some 1), (56, some 0), (54, some 2)] rfl (by kernel_rfl) (op_no (reads := [(55, some 1), (56, some 0)]) 20 54 2 true rfl rfl rfl) ?_
  refine LinR.step (s := .val undef) [(57, some 0), (54, some 3)] rfl (by kernel_rfl) (op_no (reads := [(57, some 0)]) 20 54 3 true rfl rfl rfl) ?_
  refine LinR.step (s := .val undef) [(6, none), (58, some 0)] rfl (by kernel_rfl) (op_no' (reads := [(6, none)]) 24 58 0 true rfl rfl rfl) ?_
  refine LinR.step (s := .val undef) [(59, some 0), (58, some 1)] rfl (by kernel_rfl) (op_no' (reads := [(59, some 0)]) 24 58 1 true rfl rfl rfl) ?_
  refine LinR.step (s := .val undef) [(9, none), (58, some 2)] rfl (by kernel_rfl) (op_no' (reads := [(9, none)]) 24 58 2 true rfl rfl rfl) ?_
  refine LinR.step (s := .val undef) [(61, some 0), (58, some 3)] rfl (by kernel_rfl) (op_no' (reads := [(61, some 0)]) 24 58 3 true rfl rfl rfl) ?_
  refine LinR.step (s := .val undef) [(60, some 2), (62, some 0), (58, some 4)] rfl (by kernel_rfl) (op_no' (reads := [(60, some 2), (62, some 0)]) 24 58 4 true rfl rfl rfl) ?_
  refine LinR.step (s := .val undef) [(58, some 5), (63, some 0), (54, some 9)] rfl (by kernel_rfl) (op_no (reads := [(58, some 5), (63, some 0)]) 20 54 9 true rfl rfl rfl) ?_
  refine LinR.step (s := .val undef) [(0, none), (54, some 10)] rfl (by kernel_rfl) (op_no (reads := [(0, none)]) 20 54 10 true rfl rfl rfl) ?_
  refine LinR.step (s := .val undef) [(65, some 0), (54, some 11)] rfl (by kernel_rfl) (op_no (reads := [(65, some 0)]) 20 54 11 true rfl rfl rfl) ?_
  refine LinR.step (s := .val undef) [(1, none), (54, some 12)] rfl (by kernel_rfl) (op_no (reads := [(1, none)]) 20 54 12 true rfl rfl rfl) ?_
  refine LinR.step (s := .val undef) [(67, some 0), (54, some 13)] rfl (by kernel_rfl) (op_no (reads := [(67, some 0)]) 20 54 13 true rfl rfl rfl) ?_
  refine LinR.step (s := .val undef) [(66, some 2), (68, some 0), (54, some 14)] rfl (by kernel_rfl) (op_no (reads := [(66, some 2), (68, some 0)]) 20 54 14 true rfl rfl rfl) ?_
  refine LinR.step (s := .val undef) [(64, some 5), (69, some 0), (54, some 15)] rfl (by kernel_rfl) (op_no (reads := [(64, some 5), (69, some 0)]) 20 54 15 true rfl rfl rfl) ?_
  refine LinR.step (s := (.val (.bool false))) [(54, some 16), (70, some 0), (47, some 23)] rfl (by kernel_rfl) (op_yes (reads := [(54, some 16), (70, some 0)]) 13 47 23 false rfl rfl rfl (op_runs rfl fun σ w' hx hg => ⟨(.bool false), runs_pick_f (ρ := σ.eval) (w := w') (.tmp 54) (.tmp 70) (.const (.bool false)) rfl hg.1 rfl, rfl⟩)) ?_
  refine LinR.step (s := (.val (.bool false))) [(47, some 24), (71, some 0)] rfl (by kernel_rfl) (op_runs rfl fun σ w' hx hg => ⟨(.bool false), runs_pick_f (ρ := σ.eval) (w := w') (.tmp 47) (.const (.bool true)) (.tmp 71) rfl hg.1 hg.2.1, rfl⟩) ?_
  intro wN hxN
  simp only [Fin', Sp.ptr, List.reverse_cons, List.reverse_nil, List.nil_append, List.cons_append]
  simp only [Act.put, List.setIfInBounds_toArray, List.set_cons_zero, List.set_cons_succ]
  have L0 := K0.ext hxN
  have hY := hX.trans hxN
  clear K0 K1 K2 K3 hX hxN
  go_wp2_with (first
    | (at_builtin; refine appb (.tmp 74) (.tmp 75) rfl rfl rfl rfl own_empty (L0.ext ((Ext.refl _).alloc _)) hba (by simp) ?_; intro v6 w6 ho6 hb6 hg6; have L1 := ho6.byt; have hx6 := ext_alloc_below hb6; clear ho6 hb6 hg6)
    | (go_at_call 23; refine (ReadText_any v6 la _ hla L1 (by omega)).mono ?_; rintro e w7 ⟨v7, v8, rfl, L2, L3, hx7⟩; have L4 := (L0.ext hx6).ext hx7; have hZ := (hY.trans hx6).trans hx7; clear L0 L1 hY; rw [T1.out] at L2; rw [T3.out] at L3; rw [T2.out])
    | (refine b_len _ rfl rfl rfl (by assumption) ?_))
  go_ret
  exact Keep.intro ⟨rfl, hZ⟩

set_option maxRecDepth 100000 in
set_option maxHeartbeats 2000000 in
theorem once_one_yes (va vb : Value) (la lb : List Nat) (W : World) (ha : Byt W va la) (hb : Byt W vb lb) (hla : ∀ x ∈ la, x < 256) (hlb : ∀ x ∈ lb, x < 256) (hna : la.length ≤ 140737488355328) (hnb : lb.length ≤ 140737488355328) (hA : (rd la).2 ≠ 0) (hB : (rd lb).2 = 0) (hT : RtOk la) :
    Calls Try.prog 8 #[va, vb] W fun e w' => e = .returned (.bool true) ∧ Ext W w' := by
  refine calls_keep ?_
  have hba : ([] : List Nat).length + la.length ≤ 140737488355328 := by simpa using hna
  have hbb : ([] : List Nat).length + lb.length ≤ 140737488355328 := by simpa using hnb
  have Ea := hide_ (show rdErr la = 0 from by rw [rdErr, if_neg hA])
  obtain ⟨hwa, hna64⟩ := rd_whole hla hA
  have Hcat := hide_ (show strN (numL (rd la).1) ++ strN (rdRest la) = strN la from by rw [← strN_append, hwa])
  have hcs : (strN (numL (rd la).1)).size + (strN (rdRest la)).size ≤ 9223372036854775807 := by
    rw [strN_size, strN_size, ← List.length_append, hwa]; omega
  have Eb := hide_ (show rdErr lb = 11 from by rw [rdErr, if_pos hB])
  obtain ⟨hx0, hx1, hx2, hx3⟩ := rt_whole hla hT
  have T1 := hide_ hx0
  have T2 := hide_ (show rtErr la = 0 from by rw [rtErr, if_pos hT])
  have T3 : strN (txL (rtL la)) ++ strN (rtRest la) = strN la := by rw [← strN_append, hx1]
  have hT3 : (strN (txL (rtL la))).size + (strN (rtRest la)).size ≤ 9223372036854775807 := by
    rw [strN_size, strN_size, ← List.length_append, hx1]; omega
  clear hx0 hx1 hx2 hx3
  clear hT hA hwa hB
  go_enter Try.func8, Try.ntmps8
  go_upto_region 5 with (first
    | (go_at_call 12; refine (alive_any _).mono ?_; rintro e w1 ⟨rfl, hx1⟩; have H1 := ha.ext hx1; have H2 := hb.ext hx1)
    | (at_builtin; refine appb (.tmp 19) (.tmp 20) rfl rfl rfl rfl own_empty (H1.ext ((Ext.refl _).alloc _)) hba (by simp) ?_; intro v2 w2 ho2 hb2 hg2; have H3 := ho2.byt; have hx2 := ext_alloc_below hb2; clear ho2 hb2 hg2)
    | (go_at_call 11; refine (ReadNum_any v2 la _ hla H3 (by omega)).mono ?_; rintro e w3 ⟨v3, rfl, ho3, hx3⟩; have H4 := ho3.byt; have H5 := (H1.ext hx2).ext hx3; have H6 := (H2.ext hx2).ext hx3; clear ho3 H1 H2 H3)
    | (at_builtin; refine appb (.tmp 27) (.tmp 28) rfl rfl rfl rfl own_empty (H6.ext ((Ext.refl _).alloc _)) hbb (by simp) ?_; intro v4 w4 ho4 hb4 hg4; have H7 := ho4.byt; have hx4 := ext_alloc_below hb4; clear ho4 hb4 hg4)
    | (go_at_call 11; refine (ReadNum_any v4 lb _ hlb H7 (by omega)).mono ?_; rintro e w5 ⟨v5, rfl, ho5, hx5⟩; have K3 := ho5.byt.ext (Ext.refl _).drew; have K2 := ((H4.ext hx4).ext hx5).ext (Ext.refl _).drew; have K0 := ((H5.ext hx4).ext hx5).ext (Ext.refl _).drew; have K1 := ((H6.ext hx4).ext hx5).ext (Ext.refl _).drew; have hX := ((((hx1.trans hx2).trans hx3).trans hx4).trans hx5).drew; clear ho5 H4 H5 H6 H7))
  rw [Ea.out, Eb.out]
  refine wp_region_linR (by kernel_rfl) (by kernel_rfl) ?_
  refine LinR.step (s := (.val (.int .i64 0))) [(7, none)] rfl (by kernel_rfl) (op_out 7 (.int .i64 0) rfl (.inl rfl) rfl) ?_
  refine LinR.step (s := (.val (.bool true))) [(34, some 0)] rfl (by kernel_rfl) (op_runs rfl fun σ w' hx hg => ⟨(.bool true), by have h34 : σ.tmps.getD 34 undef = .int .i64 0 := hg.1; unfold Runs execOp; simp [Act.eval, h34, go_sem], rfl⟩) ?_
  refine LinR.step (s := (.val (.bool true))) [(35, some 0)] rfl (by kernel_rfl) (op_copy 35 0 (.val (.bool true)) rfl (.inl rfl) rfl) ?_
  refine LinR.step (s := (.val (.int .u64 ((rd la).1 : Nat)))) [(5, none), (36, some 0)] rfl (by kernel_rfl) (op_yes (reads := [(5, none)]) 2 36 0 true rfl rfl rfl (op_out 5 (.int .u64 ((rd la).1 : Nat)) rfl (.inl rfl) rfl)) ?_
  refine LinR.step (s := (.sl (u8s (numL (rd la).1)))) [(37, some 0), (36, some 1)] rfl (by kernel_rfl) (op_yes (reads := [(37, some 0)]) 2 36 1 true rfl rfl rfl (op_calls 14 #[(.tmp 37)] #[22] (fun σ => #[.int .u64 ((rd la).1 : Nat)]) rfl rfl (fun _ _ => rfl) fun σ w' hx hg => ⟨by have h37 : σ.tmps.getD 37 undef = .int .u64 ((rd la).1 : Nat) := hg.1; simp only [List.map_toArray, List.map_cons, List.map_nil, Act.eval]; rw [h37], numR (rd la).1 w' hna64⟩)) ?_
  refine LinR.step (s := (.val (.string (strN (numL (rd la).1))))) [(38, some 0), (36, some 2)] rfl (by kernel_rfl) (op_yes (reads := [(38, some 0)]) 2 36 2 true rfl rfl rfl (op_runs rfl fun σ w' hx hg => ⟨_, runs_str (ρ := σ.eval) (w := w') (.tmp 38) rfl (rfl) hg.1, rfl⟩)) ?_
  refine LinR.step (s := (.val (v3))) [(6, none), (36, some 3)] rfl (by kernel_rfl) (op_yes (reads := [(6, none)]) 2 36 3 true rfl rfl rfl (op_out 6 (v3) rfl (.inl rfl) rfl)) ?_
  refine LinR.step (s := (.val (.string (strN (rdRest la))))) [(40, some 0), (36, some 4)] rfl (by kernel_rfl) (op_yes (reads := [(40, some 0)]) 2 36 4 true rfl rfl rfl (op_runs rfl fun σ w' hx hg => ⟨_, runs_str (ρ := σ.eval) (w := w') (.tmp 40) rfl (hg.1) (K2.ext hx), rfl⟩)) ?_
  refine LinR.step (s := (.val (.string (strN la)))) [(39, some 2), (41, some 0), (36, some 5)] rfl (by kernel_rfl) (op_yes (reads := [(39, some 2), (41, some 0)]) 2 36 5 true rfl rfl rfl (op_runs rfl fun σ w' hx hg => ⟨_, runs_cat (ρ := σ.eval) (w := w') (.tmp 39) (.tmp 41) rfl hg.1 hg.2.1 Hcat.out hcs, rfl⟩)) ?_
  refine LinR.step (s := (.val (va))) [(0, none), (36, some 6)] rfl (by kernel_rfl) (op_yes (reads := [(0, none)]) 2 36 6 true rfl rfl rfl (op_out 0 (va) rfl (.inl rfl) rfl)) ?_
  refine LinR.step (s := (.val (.string (strN la)))) [(43, some 0), (36, some 7)] rfl (by kernel_rfl) (op_yes (reads := [(43, some 0)]) 2 36 7 true rfl rfl rfl (op_runs rfl fun σ w' hx hg => ⟨_, runs_str (ρ := σ.eval) (w := w') (.tmp 43) rfl (hg.1) (K0.ext hx), rfl⟩)) ?_
  refine LinR.step (s := (.val (.bool false))) [(42, some 2), (44, some 0), (36, some 8)] rfl (by kernel_rfl) (op_yes (reads := [(42, some 2), (44, some 0)]) 2 36 8 true rfl rfl rfl (op_runs rfl fun σ w' hx hg => ⟨(.bool false), by have h42 : σ.tmps.getD 42 undef = .string (strN la) := hg.1; have h44 : σ.tmps.getD 44 undef = .string (strN la) := hg.2.1; unfold Runs execOp; simp [Act.eval, h42, h44, go_sem], rfl⟩)) ?_
  refine LinR.step (s := (.val (.bool false))) [(36, some 9), (45, some 0)] rfl (by kernel_rfl) (op_runs rfl fun σ w' hx hg => ⟨(.bool false), runs_pick_t (ρ := σ.eval) (w := w') (.tmp 36) (.tmp 45) (.const (.bool false)) rfl hg.1 hg.2.1, rfl⟩) ?_
  refine LinR.step (s := (.val (.bool false))) [(46, some 0)] rfl (by kernel_rfl) (op_copy 46 0 (.val (.bool false)) rfl (.inl rfl) rfl) ?_
  refine LinR.step (s := (.val (.int .i64 0))) [(7, none), (47, some 0)] rfl (by kernel_rfl) (op_yes (reads := [(7, none)]) 13 47 0 false rfl rfl rfl (op_out 7 (.int .i64 0) rfl (.inl rfl) rfl)) ?_
  refine LinR.step (s := (.val (.bool true))) [(48, some 0), (47, some 1)] rfl (by kernel_rfl) (op_yes (reads := [(48, some 0)]) 13 47 1 false rfl rfl rfl (op_runs rfl fun σ w' hx hg => ⟨(.bool true), by have h48 : σ.tmps.getD 48 undef = .int .i64 0 := hg.1; unfold Runs execOp; simp [Act.eval, h48, go_sem], rfl⟩)) ?_
  refine LinR.step (s := (.val (.bool true))) [(49, some 0), (47, some 2)] rfl (by kernel_rfl) (op_yes (reads := [(49, some 0)]) 13 47 2 false rfl rfl rfl (op_copy 49 0 (.val (.bool true)) rfl (.inl rfl) rfl)) ?_
  refine LinR.step (s := (.val (.int .i64 11))) [(10, none), (50, some 0)] rfl (by kernel_rfl) (op_yes (reads := [(10, none)]) 16 50 0 true rfl rfl rfl (op_out 10 (.int .i64 11) rfl (.inl rfl) rfl)) ?_
  refine LinR.step (s := (.val (.bool false))) [(51, some 0), (50, some 1)] rfl (by kernel_rfl) (op_yes (reads := [(51, some 0)]) 16 50 1 true rfl rfl rfl (op_runs rfl fun σ w' hx hg => ⟨(.bool false), by have h51 : σ.tmps.getD 51 undef = .int .i64 11 := hg.1; unfold Runs execOp; simp [Act.eval, h51, go_sem], rfl⟩)) ?_
  refine LinR.step (s := (.val (.bool false))) [(50, some 2), (52, some 0), (47, some 5)] rfl (by kernel_rfl) (op_yes (reads := [(50, some 2), (52, some 0)]) 13 47 5 false rfl rfl rfl (op_runs rfl fun σ w' hx hg => ⟨(.bool false), runs_pick_t (ρ := σ.eval) (w := w') (.tmp 50) (.tmp 52) (.const (.bool false)) rfl hg.1 hg.2.1, rfl⟩)) ?_
  refine LinR.step (s := (.val (.bool false))) [(53, some 0), (47, some 6)] rfl (by kernel_rfl) (op_yes (reads := [(53, some 0)]) 13 47 6 false rfl rfl rfl (op_copy 53 0 (.val (.bool false)) rfl (.inl rfl) rfl)) ?_
  refine LinR.step (s := .val undef) [(5, none), (54, some 0)] rfl (by kernel_rfl) (op_no (reads := [(5, none)]) 20 54 0 true rfl rfl rfl) ?_
  refine LinR.step (s := .val undef) [(8, none), (54, some 1)] rfl (by kernel_rfl) (op_no (reads := [(8, none)]) 20 54 1 true rfl rfl rfl) ?_
  refine LinR.step (s := .val undef) [(55, some 1), (56, some 0), (54, some 2)] rfl (by kernel_rfl) (op_no (reads := [(55, some 1), (56, some 0)]) 20 54 2 true rfl rfl rfl) ?_
  refine LinR.step (s := .val undef) [(57, some 0), (54, some 3)] rfl (by kernel_rfl) (op_no (reads := [(57, some 0)]) 20 54 3 true rfl rfl rfl) ?_
  refine LinR.step (s := .val undef) [(6, none), (58, some 0)] rfl (by kernel_rfl) (op_no' (reads := [(6, none)]) 24 58 0 true rfl rfl rfl) ?_
  refine LinR.step (s := .val undef) [(59, some 0), (58, some 1)] rfl (by kernel_rfl) (op_no' (reads := [(59, some 0)]) 24 58 1 true rfl rfl rfl) ?_
  refine LinR.step (s := .val undef) [(9, none), (58, some 2)] rfl (by kernel_rfl) (op_no' (reads := [(9, none)]) 24 58 2 true rfl rfl rfl) ?_
  refine LinR.step (s := .val undef) [(61, some 0), (58, some 3)] rfl (by kernel_rfl) (op_no' (reads := [(61, some 0)]) 24 58 3 true rfl rfl rfl) ?_
  refine LinR.step (s := .val undef) [(60, some 2), (62, some 0), (58, some 4)] rfl (by kernel_rfl) (op_no' (reads := [(60, some 2), (62, some 0)]) 24 58 4 true rfl rfl rfl) ?_
  refine LinR.step (s := .val undef) [(58, some 5), (63, some 0), (54, some 9)] rfl (by kernel_rfl) (op_no (reads := [(58, some 5), (63, some 0)]) 20 54 9 true rfl rfl rfl) ?_
  refine LinR.step (s := .val undef) [(0, none), (54, some 10)] rfl (by kernel_rfl) (op_no (reads := [(0, none)]) 20 54 10 true rfl rfl rfl) ?_
  refine LinR.step (s := .val undef) [(65, some 0), (54, some 11)] rfl (by kernel_rfl) (op_no (reads := [(65, some 0)]) 20 54 11 true rfl rfl rfl) ?_
  refine LinR.step (s := .val undef) [(1, none), (54, some 12)] rfl (by kernel_rfl) (op_no (reads := [(1, none)]) 20 54 12 true rfl rfl rfl) ?_
  refine LinR.step (s := .val undef) [(67, some 0), (54, some 13)] rfl (by kernel_rfl) (op_no (reads := [(67, some 0)]) 20 54 13 true rfl rfl rfl) ?_
  refine LinR.step (s := .val undef) [(66, some 2), (68, some 0), (54, some 14)] rfl (by kernel_rfl) (op_no (reads := [(66, some 2), (68, some 0)]) 20 54 14 true rfl rfl rfl) ?_
  refine LinR.step (s := .val undef) [(64, some 5), (69, some 0), (54, some 15)] rfl (by kernel_rfl) (op_no (reads := [(64, some 5), (69, some 0)]) 20 54 15 true rfl rfl rfl) ?_
  refine LinR.step (s := (.val (.bool false))) [(54, some 16), (70, some 0), (47, some 23)] rfl (by kernel_rfl) (op_yes (reads := [(54, some 16), (70, some 0)]) 13 47 23 false rfl rfl rfl (op_runs rfl fun σ w' hx hg => ⟨(.bool false), runs_pick_f (ρ := σ.eval) (w := w') (.tmp 54) (.tmp 70) (.const (.bool false)) rfl hg.1 rfl, rfl⟩)) ?_
  refine LinR.step (s := (.val (.bool false))) [(47, some 24), (71, some 0)] rfl (by kernel_rfl) (op_runs rfl fun σ w' hx hg => ⟨(.bool false), runs_pick_f (ρ := σ.eval) (w := w') (.tmp 47) (.const (.bool true)) (.tmp 71) rfl hg.1 hg.2.1, rfl⟩) ?_
  intro wN hxN
  simp only [Fin', Sp.ptr, List.reverse_cons, List.reverse_nil, List.nil_append, List.cons_append]
  intro q38 hq38
  simp only [Act.put, List.setIfInBounds_toArray, List.set_cons_zero, List.set_cons_succ]
  have L0 := K0.ext hxN
  have hY := hX.trans hxN
  clear K0 K1 K2 K3 hX hxN
  go_wp2_with (first
    | (at_builtin; refine appb (.tmp 74) (.tmp 75) rfl rfl rfl rfl own_empty (L0.ext ((Ext.refl _).alloc _)) hba (by simp) ?_; intro v6 w6 ho6 hb6 hg6; have L1 := ho6.byt; have hx6 := ext_alloc_below hb6; clear ho6 hb6 hg6)
    | (go_at_call 23; refine (ReadText_any v6 la _ hla L1 (by omega)).mono ?_; rintro e w7 ⟨v7, v8, rfl, L2, L3, hx7⟩; have L4 := (L0.ext hx6).ext hx7; have hZ := (hY.trans hx6).trans hx7; clear L0 L1 hY; rw [T2.out])
    | (go_at_call 21; refine (Text_any v7 _ _ L2).mono ?_; rintro e w8 ⟨v9, rfl, ho8, hx8⟩; have L5 := ho8.byt; have L6 := L3.ext hx8; have L7 := L4.ext hx8; have hZ' := hZ.trans hx8; clear ho8 L2 L3 L4 hZ; rw [T1.out])
    | (refine w_yes _ _ _ rfl rfl rfl ?_; refine w_cat _ _ rfl rfl rfl rfl T3 hT3 ?_)
    | (refine w_str _ rfl rfl rfl (by assumption) ?_)
    | (refine w_yes _ _ _ rfl rfl rfl ?_; refine w_str _ rfl rfl rfl (by assumption) ?_)
    | (refine b_len _ rfl rfl rfl (by assumption) ?_))
  go_ret
  exact Keep.intro ⟨rfl, hZ'⟩

set_option maxRecDepth 100000 in
set_option maxHeartbeats 2000000 in
theorem once_one_no (va vb : Value) (la lb : List Nat) (W : World) (ha : Byt W va la) (hb : Byt W vb lb) (hla : ∀ x ∈ la, x < 256) (hlb : ∀ x ∈ lb, x < 256) (hna : la.length ≤ 140737488355328) (hnb : lb.length ≤ 140737488355328) (hA : (rd la).2 ≠ 0) (hB : (rd lb).2 = 0) (hT : ¬ RtOk la) :
    Calls Try.prog 8 #[va, vb] W fun e w' => e = .returned (.bool true) ∧ Ext W w' := by
  refine calls_keep ?_
  have hba : ([] : List Nat).length + la.length ≤ 140737488355328 := by simpa using hna
  have hbb : ([] : List Nat).length + lb.length ≤ 140737488355328 := by simpa using hnb
  have Ea := hide_ (show rdErr la = 0 from by rw [rdErr, if_neg hA])
  obtain ⟨hwa, hna64⟩ := rd_whole hla hA
  have Hcat := hide_ (show strN (numL (rd la).1) ++ strN (rdRest la) = strN la from by rw [← strN_append, hwa])
  have hcs : (strN (numL (rd la).1)).size + (strN (rdRest la)).size ≤ 9223372036854775807 := by
    rw [strN_size, strN_size, ← List.length_append, hwa]; omega
  have Eb := hide_ (show rdErr lb = 11 from by rw [rdErr, if_pos hB])
  have T1 := hide_ (show rtL la = [] from by rw [rtL, if_neg hT])
  have T3 := hide_ (show rtRest la = [] from by rw [rtRest, if_neg hT])
  have T2 := hide_ (show rtErr la = 11 from by rw [rtErr, if_neg hT])
  clear hT hA hwa hB
  go_enter Try.func8, Try.ntmps8
  go_upto_region 5 with (first
    | (go_at_call 12; refine (alive_any _).mono ?_; rintro e w1 ⟨rfl, hx1⟩; have H1 := ha.ext hx1; have H2 := hb.ext hx1)
    | (at_builtin; refine appb (.tmp 19) (.tmp 20) rfl rfl rfl rfl own_empty (H1.ext ((Ext.refl _).alloc _)) hba (by simp) ?_; intro v2 w2 ho2 hb2 hg2; have H3 := ho2.byt; have hx2 := ext_alloc_below hb2; clear ho2 hb2 hg2)
    | (go_at_call 11; refine (ReadNum_any v2 la _ hla H3 (by omega)).mono ?_; rintro e w3 ⟨v3, rfl, ho3, hx3⟩; have H4 := ho3.byt; have H5 := (H1.ext hx2).ext hx3; have H6 := (H2.ext hx2).ext hx3; clear ho3 H1 H2 H3)
    | (at_builtin; refine appb (.tmp 27) (.tmp 28) rfl rfl rfl rfl own_empty (H6.ext ((Ext.refl _).alloc _)) hbb (by simp) ?_; intro v4 w4 ho4 hb4 hg4; have H7 := ho4.byt; have hx4 := ext_alloc_below hb4; clear ho4 hb4 hg4)
    | (go_at_call 11; refine (ReadNum_any v4 lb _ hlb H7 (by omega)).mono ?_; rintro e w5 ⟨v5, rfl, ho5, hx5⟩; have K3 := ho5.byt.ext (Ext.refl _).drew; have K2 := ((H4.ext hx4).ext hx5).ext (Ext.refl _).drew; have K0 := ((H5.ext hx4).ext hx5).ext (Ext.refl _).drew; have K1 := ((H6.ext hx4).ext hx5).ext (Ext.refl _).drew; have hX := ((((hx1.trans hx2).trans hx3).trans hx4).trans hx5).drew; clear ho5 H4 H5 H6 H7))
  rw [Ea.out, Eb.out]
  refine wp_region_linR (by kernel_rfl) (by kernel_rfl) ?_
  refine LinR.step (s := (.val (.int .i64 0))) [(7, none)] rfl (by kernel_rfl) (op_out 7 (.int .i64 0) rfl (.inl rfl) rfl) ?_
  refine LinR.step (s := (.val (.bool true))) [(34, some 0)] rfl (by kernel_rfl) (op_runs rfl fun σ w' hx hg => ⟨(.bool true), by have h34 : σ.tmps.getD 34 undef = .int .i64 0 := hg.1; unfold Runs execOp; simp [Act.eval, h34, go_sem], rfl⟩) ?_
  refine LinR.step (s := (.val (.bool true))) [(35, some 0)] rfl (by kernel_rfl) (op_copy 35 0 (.val (.bool true)) rfl (.inl rfl) rfl) ?_
  refine LinR.step (s := (.val (.int .u64 ((rd la).1 : Nat)))) [(5, none), (36, some 0)] rfl (by kernel_rfl) (op_yes (reads := [(5, none)]) 2 36 0 true rfl rfl rfl (op_out 5 (.int .u64 ((rd la).1 : Nat)) rfl (.inl rfl) rfl)) ?_
  refine LinR.step (s := (.sl (u8s (numL (rd la).1)))) [(37, some 0), (36, some 1)] rfl (by kernel_rfl) (op_yes (reads := [(37, some 0)]) 2 36 1 true rfl rfl rfl (op_calls 14 #[(.tmp 37)] #[22] (fun σ => #[.int .u64 ((rd la).1 : Nat)]) rfl rfl (fun _ _ => rfl) fun σ w' hx hg => ⟨by have h37 : σ.tmps.getD 37 undef = .int .u64 ((rd la).1 : Nat) := hg.1; simp only [List.map_toArray, List.map_cons, List.map_nil, Act.eval]; rw [h37], numR (rd la).1 w' hna64⟩)) ?_
  refine LinR.step (s := (.val (.string (strN (numL (rd la).1))))) [(38, some 0), (36, some 2)] rfl (by kernel_rfl) (op_yes (reads := [(38, some 0)]) 2 36 2 true rfl rfl rfl (op_runs rfl fun σ w' hx hg => ⟨_, runs_str (ρ := σ.eval) (w := w') (.tmp 38) rfl (rfl) hg.1, rfl⟩)) ?_
  refine LinR.step (s := (.val (v3))) [(6, none), (36, some 3)] rfl (by kernel_rfl) (op_yes (reads := [(6, none)]) 2 36 3 true rfl rfl rfl (op_out 6 (v3) rfl (.inl rfl) rfl)) ?_
  refine LinR.step (s := (.val (.string (strN (rdRest la))))) [(40, some 0), (36, some 4)] rfl (by kernel_rfl) (op_yes (reads := [(40, some 0)]) 2 36 4 true rfl rfl rfl (op_runs rfl fun σ w' hx hg => ⟨_, runs_str (ρ := σ.eval) (w := w') (.tmp 40) rfl (hg.1) (K2.ext hx), rfl⟩)) ?_
  refine LinR.step (s := (.val (.string (strN la)))) [(39, some 2), (41, some 0), (36, some 5)] rfl (by kernel_rfl) (op_yes (reads := [(39, some 2), (41, some 0)]) 2 36 5 true rfl rfl rfl (op_runs rfl fun σ w' hx hg => ⟨_, runs_cat (ρ := σ.eval) (w := w') (.tmp 39) (.tmp 41) rfl hg.1 hg.2.1 Hcat.out hcs, rfl⟩)) ?_
  refine LinR.step (s := (.val (va))) [(0, none), (36, some 6)] rfl (by kernel_rfl) (op_yes (reads := [(0, none)]) 2 36 6 true rfl rfl rfl (op_out 0 (va) rfl (.inl rfl) rfl)) ?_
  refine LinR.step (s := (.val (.string (strN la)))) [(43, some 0), (36, some 7)] rfl (by kernel_rfl) (op_yes (reads := [(43, some 0)]) 2 36 7 true rfl rfl rfl (op_runs rfl fun σ w' hx hg => ⟨_, runs_str (ρ := σ.eval) (w := w') (.tmp 43) rfl (hg.1) (K0.ext hx), rfl⟩)) ?_
  refine LinR.step (s := (.val (.bool false))) [(42, some 2), (44, some 0), (36, some 8)] rfl (by kernel_rfl) (op_yes (reads := [(42, some 2), (44, some 0)]) 2 36 8 true rfl rfl rfl (op_runs rfl fun σ w' hx hg => ⟨(.bool false), by have h42 : σ.tmps.getD 42 undef = .string (strN la) := hg.1; have h44 : σ.tmps.getD 44 undef = .string (strN la) := hg.2.1; unfold Runs execOp; simp [Act.eval, h42, h44, go_sem], rfl⟩)) ?_
  refine LinR.step (s := (.val (.bool false))) [(36, some 9), (45, some 0)] rfl (by kernel_rfl) (op_runs rfl fun σ w' hx hg => ⟨(.bool false), runs_pick_t (ρ := σ.eval) (w := w') (.tmp 36) (.tmp 45) (.const (.bool false)) rfl hg.1 hg.2.1, rfl⟩) ?_
  refine LinR.step (s := (.val (.bool false))) [(46, some 0)] rfl (by kernel_rfl) (op_copy 46 0 (.val (.bool false)) rfl (.inl rfl) rfl) ?_
  refine LinR.step (s := (.val (.int .i64 0))) [(7, none), (47, some 0)] rfl (by kernel_rfl) (op_yes (reads := [(7, none)]) 13 47 0 false rfl rfl rfl (op_out 7 (.int .i64 0) rfl (.inl rfl) rfl)) ?_
  refine LinR.step (s := (.val (.bool true))) [(48, some 0), (47, some 1)] rfl (by kernel_rfl) (op_yes (reads := [(48, some 0)]) 13 47 1 false rfl rfl rfl (op_runs rfl fun σ w' hx hg => ⟨(.bool true), by have h48 : σ.tmps.getD 48 undef = .int .i64 0 := hg.1; unfold Runs execOp; simp [Act.eval, h48, go_sem], rfl⟩)) ?_
  refine LinR.step (s := (.val (.bool true))) [(49, some 0), (47, some 2)] rfl (by kernel_rfl) (op_yes (reads := [(49, some 0)]) 13 47 2 false rfl rfl rfl (op_copy 49 0 (.val (.bool true)) rfl (.inl rfl) rfl)) ?_
  refine LinR.step (s := (.val (.int .i64 11))) [(10, none), (50, some 0)] rfl (by kernel_rfl) (op_yes (reads := [(10, none)]) 16 50 0 true rfl rfl rfl (op_out 10 (.int .i64 11) rfl (.inl rfl) rfl)) ?_
  refine LinR.step (s := (.val (.bool false))) [(51, some 0), (50, some 1)] rfl (by kernel_rfl) (op_yes (reads := [(51, some 0)]) 16 50 1 true rfl rfl rfl (op_runs rfl fun σ w' hx hg => ⟨(.bool false), by have h51 : σ.tmps.getD 51 undef = .int .i64 11 := hg.1; unfold Runs execOp; simp [Act.eval, h51, go_sem], rfl⟩)) ?_
  refine LinR.step (s := (.val (.bool false))) [(50, some 2), (52, some 0), (47, some 5)] rfl (by kernel_rfl) (op_yes (reads := [(50, some 2), (52, some 0)]) 13 47 5 false rfl rfl rfl (op_runs rfl fun σ w' hx hg => ⟨(.bool false), runs_pick_t (ρ := σ.eval) (w := w') (.tmp 50) (.tmp 52) (.const (.bool false)) rfl hg.1 hg.2.1, rfl⟩)) ?_
  refine LinR.step (s := (.val (.bool false))) [(53, some 0), (47, some 6)] rfl (by kernel_rfl) (op_yes (reads := [(53, some 0)]) 13 47 6 false rfl rfl rfl (op_copy 53 0 (.val (.bool false)) rfl (.inl rfl) rfl)) ?_
  refine LinR.step (s := .val undef) [(5, none), (54, some 0)] rfl (by kernel_rfl) (op_no (reads := [(5, none)]) 20 54 0 true rfl rfl rfl) ?_
  refine LinR.step (s := .val undef) [(8, none), (54, some 1)] rfl (by kernel_rfl) (op_no (reads := [(8, none)]) 20 54 1 true rfl rfl rfl) ?_
  refine LinR.step (s := .val undef) [(55, some 1), (56, some 0), (54, some 2)] rfl (by kernel_rfl) (op_no (reads := [(55, some 1), (56, some 0)]) 20 54 2 true rfl rfl rfl) ?_
  refine LinR.step (s := .val undef) [(57, some 0), (54, some 3)] rfl (by kernel_rfl) (op_no (reads := [(57, some 0)]) 20 54 3 true rfl rfl rfl) ?_
  refine LinR.step (s := .val undef) [(6, none), (58, some 0)] rfl (by kernel_rfl) (op_no' (reads := [(6, none)]) 24 58 0 true rfl rfl rfl) ?_
  refine LinR.step (s := .val undef) [(59, some 0), (58, some 1)] rfl (by kernel_rfl) (op_no' (reads := [(59, some 0)]) 24 58 1 true rfl rfl rfl) ?_
  refine LinR.step (s := .val undef) [(9, none), (58, some 2)] rfl (by kernel_rfl) (op_no' (reads := [(9, none)]) 24 58 2 true rfl rfl rfl) ?_
  refine LinR.step (s := .val undef) [(61, some 0), (58, some 3)] rfl (by kernel_rfl) (op_no' (reads := [(61, some 0)]) 24 58 3 true rfl rfl rfl) ?_
  refine LinR.step (s := .val undef) [(60, some 2), (62, some 0), (58, some 4)] rfl (by kernel_rfl) (op_no' (reads := [(60, some 2), (62, some 0)]) 24 58 4 true rfl rfl rfl) ?_
  refine LinR.step (s := .val undef) [(58, some 5), (63, some 0), (54, some 9)] rfl (by kernel_rfl) (op_no (reads := [(58, some 5), (63, some 0)]) 20 54 9 true rfl rfl rfl) ?_
  refine LinR.step (s := .val undef) [(0, none), (54, some 10)] rfl (by kernel_rfl) (op_no (reads := [(0, none)]) 20 54 10 true rfl rfl rfl) ?_
  refine LinR.step (s := .val undef) [(65, some 0), (54, some 11)] rfl (by kernel_rfl) (op_no (reads := [(65, some 0)]) 20 54 11 true rfl rfl rfl) ?_
  refine LinR.step (s := .val undef) [(1, none), (54, some 12)] rfl (by kernel_rfl) (op_no (reads := [(1, none)]) 20 54 12 true rfl rfl rfl) ?_
  refine LinR.step (s := .val undef) [(67, some 0), (54, some 13)] rfl (by kernel_rfl) (op_no (reads := [(67, some 0)]) 20 54 13 true rfl rfl rfl) ?_
  refine LinR.step (s := .val undef) [(66, some 2), (68, some 0), (54, some 14)] rfl (by kernel_rfl) (op_no (reads := [(66, some 2), (68, some 0)]) 20 54 14 true rfl rfl rfl) ?_
  refine LinR.step (s := .val undef) [(64, some 5), (69, some 0), (54, some 15)] rfl (by kernel_rfl) (op_no (reads := [(64, some 5), (69, some 0)]) 20 54 15 true rfl rfl rfl) ?_
  refine LinR.step (s := (.val (.bool false))) [(54, some 16), (70, some 0), (47, some 23)] rfl (by kernel_rfl) (op_yes (reads := [(54, some 16), (70, some 0)]) 13 47 23 false rfl rfl rfl (op_runs rfl fun σ w' hx hg => ⟨(.bool false), runs_pick_f (ρ := σ.eval) (w := w') (.tmp 54) (.tmp 70) (.const (.bool false)) rfl hg.1 rfl, rfl⟩)) ?_
  refine LinR.step (s := (.val (.bool false))) [(47, some 24), (71, some 0)] rfl (by kernel_rfl) (op_runs rfl fun σ w' hx hg => ⟨(.bool false), runs_pick_f (ρ := σ.eval) (w := w') (.tmp 47) (.const (.bool true)) (.tmp 71) rfl hg.1 hg.2.1, rfl⟩) ?_
  intro wN hxN
  simp only [Fin', Sp.ptr, List.reverse_cons, List.reverse_nil, List.nil_append, List.cons_append]
  intro q38 hq38
  simp only [Act.put, List.setIfInBounds_toArray, List.set_cons_zero, List.set_cons_succ]
  have L0 := K0.ext hxN
  have hY := hX.trans hxN
  clear K0 K1 K2 K3 hX hxN
  go_wp2_with (first
    | (at_builtin; refine appb (.tmp 74) (.tmp 75) rfl rfl rfl rfl own_empty (L0.ext ((Ext.refl _).alloc _)) hba (by simp) ?_; intro v6 w6 ho6 hb6 hg6; have L1 := ho6.byt; have hx6 := ext_alloc_below hb6; clear ho6 hb6 hg6)
    | (go_at_call 23; refine (ReadText_any v6 la _ hla L1 (by omega)).mono ?_; rintro e w7 ⟨v7, v8, rfl, L2, L3, hx7⟩; have L4 := (L0.ext hx6).ext hx7; have hZ := (hY.trans hx6).trans hx7; clear L0 L1 hY; rw [T1.out] at L2; rw [T3.out] at L3; rw [T2.out])
    | (refine b_len _ rfl rfl rfl (by assumption) ?_))
  go_ret
  exact Keep.intro ⟨rfl, hZ⟩

set_option maxRecDepth 100000 in
set_option maxHeartbeats 2000000 in
theorem once_same_yes (va vb : Value) (la lb : List Nat) (W : World) (ha : Byt W va la) (hb : Byt W vb lb) (hla : ∀ x ∈ la, x < 256) (hlb : ∀ x ∈ lb, x < 256) (hna : la.length ≤ 140737488355328) (hnb : lb.length ≤ 140737488355328) (hA : (rd la).2 ≠ 0) (hB : (rd lb).2 ≠ 0) (hN : (rd la).1 = (rd lb).1) (hR : rdRest la = rdRest lb) (hT : RtOk la) :
    Calls Try.prog 8 #[va, vb] W fun e w' => e = .returned (.bool true) ∧ Ext W w' := by
  refine calls_keep ?_
  have hba : ([] : List Nat).length + la.length ≤ 140737488355328 := by simpa using hna
  have hbb : ([] : List Nat).length + lb.length ≤ 140737488355328 := by simpa using hnb
  have Ea := hide_ (show rdErr la = 0 from by rw [rdErr, if_neg hA])
  obtain ⟨hwa, hna64⟩ := rd_whole hla hA
  have Hcat := hide_ (show strN (numL (rd la).1) ++ strN (rdRest la) = strN la from by rw [← strN_append, hwa])
  have hcs : (strN (numL (rd la).1)).size + (strN (rdRest la)).size ≤ 9223372036854775807 := by
    rw [strN_size, strN_size, ← List.length_append, hwa]; omega
  have Eb := hide_ (show rdErr lb = 0 from by rw [rdErr, if_neg hB])
  obtain ⟨hwb, -⟩ := rd_whole hlb hB
  have Hab := hide_ (show la = lb from by rw [← hwa, ← hwb, hN, hR])
  have HR := hide_ hR
  have HN := hide_ hN
  obtain ⟨hx0, hx1, hx2, hx3⟩ := rt_whole hla hT
  have T1 := hide_ hx0
  have T2 := hide_ (show rtErr la = 0 from by rw [rtErr, if_pos hT])
  have T3 : strN (txL (rtL la)) ++ strN (rtRest la) = strN la := by rw [← strN_append, hx1]
  have hT3 : (strN (txL (rtL la))).size + (strN (rtRest la)).size ≤ 9223372036854775807 := by
    rw [strN_size, strN_size, ← List.length_append, hx1]; omega
  clear hx0 hx1 hx2 hx3
  clear hT hA hwa hB hwb hN hR
  go_enter Try.func8, Try.ntmps8
  go_upto_region 5 with (first
    | (go_at_call 12; refine (alive_any _).mono ?_; rintro e w1 ⟨rfl, hx1⟩; have H1 := ha.ext hx1; have H2 := hb.ext hx1)
    | (at_builtin; refine appb (.tmp 19) (.tmp 20) rfl rfl rfl rfl own_empty (H1.ext ((Ext.refl _).alloc _)) hba (by simp) ?_; intro v2 w2 ho2 hb2 hg2; have H3 := ho2.byt; have hx2 := ext_alloc_below hb2; clear ho2 hb2 hg2)
    | (go_at_call 11; refine (ReadNum_any v2 la _ hla H3 (by omega)).mono ?_; rintro e w3 ⟨v3, rfl, ho3, hx3⟩; have H4 := ho3.byt; have H5 := (H1.ext hx2).ext hx3; have H6 := (H2.ext hx2).ext hx3; clear ho3 H1 H2 H3)
    | (at_builtin; refine appb (.tmp 27) (.tmp 28) rfl rfl rfl rfl own_empty (H6.ext ((Ext.refl _).alloc _)) hbb (by simp) ?_; intro v4 w4 ho4 hb4 hg4; have H7 := ho4.byt; have hx4 := ext_alloc_below hb4; clear ho4 hb4 hg4)
    | (go_at_call 11; refine (ReadNum_any v4 lb _ hlb H7 (by omega)).mono ?_; rintro e w5 ⟨v5, rfl, ho5, hx5⟩; have K3 := ho5.byt.ext (Ext.refl _).drew; have K2 := ((H4.ext hx4).ext hx5).ext (Ext.refl _).drew; have K0 := ((H5.ext hx4).ext hx5).ext (Ext.refl _).drew; have K1 := ((H6.ext hx4).ext hx5).ext (Ext.refl _).drew; have hX := ((((hx1.trans hx2).trans hx3).trans hx4).trans hx5).drew; clear ho5 H4 H5 H6 H7))
  rw [Ea.out, Eb.out]
  refine wp_region_linR (by kernel_rfl) (by kernel_rfl) ?_
  refine LinR.step (s := (.val (.int .i64 0))) [(7, none)] rfl (by kernel_rfl) (op_out 7 (.int .i64 0) rfl (.inl rfl) rfl) ?_
  refine LinR.step (s := (.val (.bool true))) [(34, some 0)] rfl (by kernel_rfl) (op_runs rfl fun σ w' hx hg => ⟨(.bool true), by have h34 : σ.tmps.getD 34 undef = .int .i64 0 := hg.1; unfold Runs execOp; simp [Act.eval, h34, go_sem], rfl⟩) ?_
  refine LinR.step (s := (.val (.bool true))) [(35, some 0)] rfl (by kernel_rfl) (op_copy 35 0 (.val (.bool true)) rfl (.inl rfl) rfl) ?_
  refine LinR.step (s := (.val (.int .u64 ((rd la).1 : Nat)))) [(5, none), (36, some 0)] rfl (by kernel_rfl) (op_yes (reads := [(5, none)]) 2 36 0 true rfl rfl rfl (op_out 5 (.int .u64 ((rd la).1 : Nat)) rfl (.inl rfl) rfl)) ?_
  refine LinR.step (s := (.sl (u8s (numL (rd la).1)))) [(37, some 0), (36, some 1)] rfl (by kernel_rfl) (op_yes (reads := [(37, some 0)]) 2 36 1 true rfl rfl rfl (op_calls 14 #[(.tmp 37)] #[22] (fun σ => #[.int .u64 ((rd la).1 : Nat)]) rfl rfl (fun _ _ => rfl) fun σ w' hx hg => ⟨by have h37 : σ.tmps.getD 37 undef = .int .u64 ((rd la).1 : Nat) := hg.1; simp only [List.map_toArray, List.map_cons, List.map_nil, Act.eval]; rw [h37], numR (rd la).1 w' hna64⟩)) ?_
  refine LinR.step (s := (.val (.string (strN (numL (rd la).1))))) [(38, some 0), (36, some 2)] rfl (by kernel_rfl) (op_yes (reads := [(38, some 0)]) 2 36 2 true rfl rfl rfl (op_runs rfl fun σ w' hx hg => ⟨_, runs_str (ρ := σ.eval) (w := w') (.tmp 38) rfl (rfl) hg.1, rfl⟩)) ?_
  refine LinR.step (s := (.val (v3))) [(6, none), (36, some 3)] rfl (by kernel_rfl) (op_yes (reads := [(6, none)]) 2 36 3 true rfl rfl rfl (op_out 6 (v3) rfl (.inl rfl) rfl)) ?_
  refine LinR.step (s := (.val (.string (strN (rdRest la))))) [(40, some 0), (36, some 4)] rfl (by kernel_rfl) (op_yes (reads := [(40, some 0)]) 2 36 4 true rfl rfl rfl (op_runs rfl fun σ w' hx hg => ⟨_, runs_str (ρ := σ.eval) (w := w') (.tmp 40) rfl (hg.1) (K2.ext hx), rfl⟩)) ?_
  refine LinR.step (s := (.val (.string (strN la)))) [(39, some 2), (41, some 0), (36, some 5)] rfl (by kernel_rfl) (op_yes (reads := [(39, some 2), (41, some 0)]) 2 36 5 true rfl rfl rfl (op_runs rfl fun σ w' hx hg => ⟨_, runs_cat (ρ := σ.eval) (w := w') (.tmp 39) (.tmp 41) rfl hg.1 hg.2.1 Hcat.out hcs, rfl⟩)) ?_
  refine LinR.step (s := (.val (va))) [(0, none), (36, some 6)] rfl (by kernel_rfl) (op_yes (reads := [(0, none)]) 2 36 6 true rfl rfl rfl (op_out 0 (va) rfl (.inl rfl) rfl)) ?_
  refine LinR.step (s := (.val (.string (strN la)))) [(43, some 0), (36, some 7)] rfl (by kernel_rfl) (op_yes (reads := [(43, some 0)]) 2 36 7 true rfl rfl rfl (op_runs rfl fun σ w' hx hg => ⟨_, runs_str (ρ := σ.eval) (w := w') (.tmp 43) rfl (hg.1) (K0.ext hx), rfl⟩)) ?_
  refine LinR.step (s := (.val (.bool false))) [(42, some 2), (44, some 0), (36, some 8)] rfl (by kernel_rfl) (op_yes (reads := [(42, some 2), (44, some 0)]) 2 36 8 true rfl rfl rfl (op_runs rfl fun σ w' hx hg => ⟨(.bool false), by have h42 : σ.tmps.getD 42 undef = .string (strN la) := hg.1; have h44 : σ.tmps.getD 44 undef = .string (strN la) := hg.2.1; unfold Runs execOp; simp [Act.eval, h42, h44, go_sem], rfl⟩)) ?_
  refine LinR.step (s := (.val (.bool false))) [(36, some 9), (45, some 0)] rfl (by kernel_rfl) (op_runs rfl fun σ w' hx hg => ⟨(.bool false), runs_pick_t (ρ := σ.eval) (w := w') (.tmp 36) (.tmp 45) (.const (.bool false)) rfl hg.1 hg.2.1, rfl⟩) ?_
  refine LinR.step (s := (.val (.bool false))) [(46, some 0)] rfl (by kernel_rfl) (op_copy 46 0 (.val (.bool false)) rfl (.inl rfl) rfl) ?_
  refine LinR.step (s := (.val (.int .i64 0))) [(7, none), (47, some 0)] rfl (by kernel_rfl) (op_yes (reads := [(7, none)]) 13 47 0 false rfl rfl rfl (op_out 7 (.int .i64 0) rfl (.inl rfl) rfl)) ?_
  refine LinR.step (s := (.val (.bool true))) [(48, some 0), (47, some 1)] rfl (by kernel_rfl) (op_yes (reads := [(48, some 0)]) 13 47 1 false rfl rfl rfl (op_runs rfl fun σ w' hx hg => ⟨(.bool true), by have h48 : σ.tmps.getD 48 undef = .int .i64 0 := hg.1; unfold Runs execOp; simp [Act.eval, h48, go_sem], rfl⟩)) ?_
  refine LinR.step (s := (.val (.bool true))) [(49, some 0), (47, some 2)] rfl (by kernel_rfl) (op_yes (reads := [(49, some 0)]) 13 47 2 false rfl rfl rfl (op_copy 49 0 (.val (.bool true)) rfl (.inl rfl) rfl)) ?_
  refine LinR.step (s := (.val (.int .i64 0))) [(10, none), (50, some 0)] rfl (by kernel_rfl) (op_yes (reads := [(10, none)]) 16 50 0 true rfl rfl rfl (op_out 10 (.int .i64 0) rfl (.inl rfl) rfl)) ?_
  refine LinR.step (s := (.val (.bool true))) [(51, some 0), (50, some 1)] rfl (by kernel_rfl) (op_yes (reads := [(51, some 0)]) 16 50 1 true rfl rfl rfl (op_runs rfl fun σ w' hx hg => ⟨(.bool true), by have h51 : σ.tmps.getD 51 undef = .int .i64 0 := hg.1; unfold Runs execOp; simp [Act.eval, h51, go_sem], rfl⟩)) ?_
  refine LinR.step (s := (.val (.bool true))) [(50, some 2), (52, some 0), (47, some 5)] rfl (by kernel_rfl) (op_yes (reads := [(50, some 2), (52, some 0)]) 13 47 5 false rfl rfl rfl (op_runs rfl fun σ w' hx hg => ⟨(.bool true), runs_pick_t (ρ := σ.eval) (w := w') (.tmp 50) (.tmp 52) (.const (.bool false)) rfl hg.1 hg.2.1, rfl⟩)) ?_
  refine LinR.step (s := (.val (.bool true))) [(53, some 0), (47, some 6)] rfl (by kernel_rfl) (op_yes (reads := [(53, some 0)]) 13 47 6 false rfl rfl rfl (op_copy 53 0 (.val (.bool true)) rfl (.inl rfl) rfl)) ?_
  refine LinR.step (s := (.val (.int .u64 ((rd la).1 : Nat)))) [(5, none), (54, some 0)] rfl (by kernel_rfl) (op_yes (reads := [(5, none)]) 20 54 0 true rfl rfl rfl (op_out 5 (.int .u64 ((rd la).1 : Nat)) rfl (.inl rfl) rfl)) ?_
  refine LinR.step (s := (.val (.int .u64 ((rd lb).1 : Nat)))) [(8, none), (54, some 1)] rfl (by kernel_rfl) (op_yes (reads := [(8, none)]) 20 54 1 true rfl rfl rfl (op_out 8 (.int .u64 ((rd lb).1 : Nat)) rfl (.inl rfl) rfl)) ?_
  refine LinR.step (s := (.val (.bool true))) [(55, some 1), (56, some 0), (54, some 2)] rfl (by kernel_rfl) (op_yes (reads := [(55, some 1), (56, some 0)]) 20 54 2 true rfl rfl rfl (op_runs rfl fun σ w' hx hg => ⟨(.bool true), by have h55 : σ.tmps.getD 55 undef = .int .u64 ((rd la).1 : Nat) := hg.1; have h56 : σ.tmps.getD 56 undef = .int .u64 ((rd lb).1 : Nat) := hg.2.1; unfold Runs execOp; simp [Act.eval, h55, h56, go_sem, HN.out], rfl⟩)) ?_
  refine LinR.step (s := (.val (.bool true))) [(57, some 0), (54, some 3)] rfl (by kernel_rfl) (op_yes (reads := [(57, some 0)]) 20 54 3 true rfl rfl rfl (op_copy 57 0 (.val (.bool true)) rfl (.inl rfl) rfl)) ?_
  refine LinR.step (s := (.val (v3))) [(6, none), (58, some 0)] rfl (by kernel_rfl) (op_yes (reads := [(6, none)]) 24 58 0 true rfl rfl rfl (op_out 6 (v3) rfl (.inl rfl) rfl)) ?_
  refine LinR.step (s := (.val (.string (strN (rdRest la))))) [(59, some 0), (58, some 1)] rfl (by kernel_rfl) (op_yes (reads := [(59, some 0)]) 24 58 1 true rfl rfl rfl (op_runs rfl fun σ w' hx hg => ⟨_, runs_str (ρ := σ.eval) (w := w') (.tmp 59) rfl (hg.1) (K2.ext hx), rfl⟩)) ?_
  refine LinR.step (s := (.val (v5))) [(9, none), (58, some 2)] rfl (by kernel_rfl) (op_yes (reads := [(9, none)]) 24 58 2 true rfl rfl rfl (op_out 9 (v5) rfl (.inl rfl) rfl)) ?_
  refine LinR.step (s := (.val (.string (strN (rdRest lb))))) [(61, some 0), (58, some 3)] rfl (by kernel_rfl) (op_yes (reads := [(61, some 0)]) 24 58 3 true rfl rfl rfl (op_runs rfl fun σ w' hx hg => ⟨_, runs_str (ρ := σ.eval) (w := w') (.tmp 61) rfl (hg.1) (K3.ext hx), rfl⟩)) ?_
  refine LinR.step (s := (.val (.bool true))) [(60, some 2), (62, some 0), (58, some 4)] rfl (by kernel_rfl) (op_yes (reads := [(60, some 2), (62, some 0)]) 24 58 4 true rfl rfl rfl (op_runs rfl fun σ w' hx hg => ⟨(.bool true), by have h60 : σ.tmps.getD 60 undef = .string (strN (rdRest la)) := hg.1; have h62 : σ.tmps.getD 62 undef = .string (strN (rdRest lb)) := hg.2.1; unfold Runs execOp; simp [Act.eval, h60, h62, go_sem, HR.out], rfl⟩)) ?_
  refine LinR.step (s := (.val (.bool true))) [(58, some 5), (63, some 0), (54, some 9)] rfl (by kernel_rfl) (op_yes (reads := [(58, some 5), (63, some 0)]) 20 54 9 true rfl rfl rfl (op_runs rfl fun σ w' hx hg => ⟨(.bool true), runs_pick_t (ρ := σ.eval) (w := w') (.tmp 58) (.tmp 63) (.const (.bool false)) rfl hg.1 hg.2.1, rfl⟩)) ?_
  refine LinR.step (s := (.val (va))) [(0, none), (54, some 10)] rfl (by kernel_rfl) (op_yes (reads := [(0, none)]) 20 54 10 true rfl rfl rfl (op_out 0 (va) rfl (.inl rfl) rfl)) ?_
  refine LinR.step (s := (.val (.string (strN la)))) [(65, some 0), (54, some 11)] rfl (by kernel_rfl) (op_yes (reads := [(65, some 0)]) 20 54 11 true rfl rfl rfl (op_runs rfl fun σ w' hx hg => ⟨_, runs_str (ρ := σ.eval) (w := w') (.tmp 65) rfl (hg.1) (K0.ext hx), rfl⟩)) ?_
  refine LinR.step (s := (.val (vb))) [(1, none), (54, some 12)] rfl (by kernel_rfl) (op_yes (reads := [(1, none)]) 20 54 12 true rfl rfl rfl (op_out 1 (vb) rfl (.inl rfl) rfl)) ?_
  refine LinR.step (s := (.val (.string (strN lb)))) [(67, some 0), (54, some 13)] rfl (by kernel_rfl) (op_yes (reads := [(67, some 0)]) 20 54 13 true rfl rfl rfl (op_runs rfl fun σ w' hx hg => ⟨_, runs_str (ρ := σ.eval) (w := w') (.tmp 67) rfl (hg.1) (K1.ext hx), rfl⟩)) ?_
  refine LinR.step (s := (.val (.bool true))) [(66, some 2), (68, some 0), (54, some 14)] rfl (by kernel_rfl) (op_yes (reads := [(66, some 2), (68, some 0)]) 20 54 14 true rfl rfl rfl (op_runs rfl fun σ w' hx hg => ⟨(.bool true), by have h66 : σ.tmps.getD 66 undef = .string (strN la) := hg.1; have h68 : σ.tmps.getD 68 undef = .string (strN lb) := hg.2.1; unfold Runs execOp; simp [Act.eval, h66, h68, go_sem, Hab.out], rfl⟩)) ?_
  refine LinR.step (s := (.val (.bool false))) [(64, some 5), (69, some 0), (54, some 15)] rfl (by kernel_rfl) (op_yes (reads := [(64, some 5), (69, some 0)]) 20 54 15 true rfl rfl rfl (op_runs rfl fun σ w' hx hg => ⟨(.bool false), by have h64 : σ.tmps.getD 64 undef = .bool true := hg.1; have h69 : σ.tmps.getD 69 undef = .bool true := hg.2.1; unfold Runs execOp; simp [Act.eval, h64, h69, go_sem], rfl⟩)) ?_
  refine LinR.step (s := (.val (.bool false))) [(54, some 16), (70, some 0), (47, some 23)] rfl (by kernel_rfl) (op_yes (reads := [(54, some 16), (70, some 0)]) 13 47 23 false rfl rfl rfl (op_runs rfl fun σ w' hx hg => ⟨(.bool false), runs_pick_t (ρ := σ.eval) (w := w') (.tmp 54) (.tmp 70) (.const (.bool false)) rfl hg.1 hg.2.1, rfl⟩)) ?_
  refine LinR.step (s := (.val (.bool false))) [(47, some 24), (71, some 0)] rfl (by kernel_rfl) (op_runs rfl fun σ w' hx hg => ⟨(.bool false), runs_pick_f (ρ := σ.eval) (w := w') (.tmp 47) (.const (.bool true)) (.tmp 71) rfl hg.1 hg.2.1, rfl⟩) ?_
  intro wN hxN
  simp only [Fin', Sp.ptr, List.reverse_cons, List.reverse_nil, List.nil_append, List.cons_append]
  intro q38 hq38
  simp only [Act.put, List.setIfInBounds_toArray, List.set_cons_zero, List.set_cons_succ]
  have L0 := K0.ext hxN
  have hY := hX.trans hxN
  clear K0 K1 K2 K3 hX hxN
  go_wp2_with (first
    | (at_builtin; refine appb (.tmp 74) (.tmp 75) rfl rfl rfl rfl own_empty (L0.ext ((Ext.refl _).alloc _)) hba (by simp) ?_; intro v6 w6 ho6 hb6 hg6; have L1 := ho6.byt; have hx6 := ext_alloc_below hb6; clear ho6 hb6 hg6)
    | (go_at_call 23; refine (ReadText_any v6 la _ hla L1 (by omega)).mono ?_; rintro e w7 ⟨v7, v8, rfl, L2, L3, hx7⟩; have L4 := (L0.ext hx6).ext hx7; have hZ := (hY.trans hx6).trans hx7; clear L0 L1 hY; rw [T2.out])
    | (go_at_call 21; refine (Text_any v7 _ _ L2).mono ?_; rintro e w8 ⟨v9, rfl, ho8, hx8⟩; have L5 := ho8.byt; have L6 := L3.ext hx8; have L7 := L4.ext hx8; have hZ' := hZ.trans hx8; clear ho8 L2 L3 L4 hZ; rw [T1.out])
    | (refine w_yes _ _ _ rfl rfl rfl ?_; refine w_cat _ _ rfl rfl rfl rfl T3 hT3 ?_)
    | (refine w_str _ rfl rfl rfl (by assumption) ?_)
    | (refine w_yes _ _ _ rfl rfl rfl ?_; refine w_str _ rfl rfl rfl (by assumption) ?_)
    | (refine b_len _ rfl rfl rfl (by assumption) ?_))
  go_ret
  exact Keep.intro ⟨rfl, hZ'⟩

set_option maxRecDepth 100000 in
set_option maxHeartbeats 2000000 in
theorem once_same_no (va vb : Value) (la lb : List Nat) (W : World) (ha : Byt W va la) (hb : Byt W vb lb) (hla : ∀ x ∈ la, x < 256) (hlb : ∀ x ∈ lb, x < 256) (hna : la.length ≤ 140737488355328) (hnb : lb.length ≤ 140737488355328) (hA : (rd la).2 ≠ 0) (hB : (rd lb).2 ≠ 0) (hN : (rd la).1 = (rd lb).1) (hR : rdRest la = rdRest lb) (hT : ¬ RtOk la) :
    Calls Try.prog 8 #[va, vb] W fun e w' => e = .returned (.bool true) ∧ Ext W w' := by
  refine calls_keep ?_
  have hba : ([] : List Nat).length + la.length ≤ 140737488355328 := by simpa using hna
  have hbb : ([] : List Nat).length + lb.length ≤ 140737488355328 := by simpa using hnb
  have Ea := hide_ (show rdErr la = 0 from by rw [rdErr, if_neg hA])
  obtain ⟨hwa, hna64⟩ := rd_whole hla hA
  have Hcat := hide_ (show strN (numL (rd la).1) ++ strN (rdRest la) = strN la from by rw [← strN_append, hwa])
  have hcs : (strN (numL (rd la).1)).size + (strN (rdRest la)).size ≤ 9223372036854775807 := by
    rw [strN_size, strN_size, ← List.length_append, hwa]; omega
  have Eb := hide_ (show rdErr lb = 0 from by rw [rdErr, if_neg hB])
  obtain ⟨hwb, -⟩ := rd_whole hlb hB
  have Hab := hide_ (show la = lb from by rw [← hwa, ← hwb, hN, hR])
  have HR := hide_ hR
  have HN := hide_ hN
  have T1 := hide_ (show rtL la = [] from by rw [rtL, if_neg hT])
  have T3 := hide_ (show rtRest la = [] from by rw [rtRest, if_neg hT])
  have T2 := hide_ (show rtErr la = 11 from by rw [rtErr, if_neg hT])
  clear hT hA hwa hB hwb hN hR
  go_enter Try.func8, Try.ntmps8
  go_upto_region 5 with (first
    | (go_at_call 12; refine (alive_any _).mono ?_; rintro e w1 ⟨rfl, hx1⟩; have H1 := ha.ext hx1; have H2 := hb.ext hx1)
    | (at_builtin; refine appb (.tmp 19) (.tmp 20) rfl rfl rfl rfl own_empty (H1.ext ((Ext.refl _).alloc _)) hba (by simp) ?_; intro v2 w2 ho2 hb2 hg2; have H3 := ho2.byt; have hx2 := ext_alloc_below hb2; clear ho2 hb2 hg2)
    | (go_at_call 11; refine (ReadNum_any v2 la _ hla H3 (by omega)).mono ?_; rintro e w3 ⟨v3, rfl, ho3, hx3⟩; have H4 := ho3.byt; have H5 := (H1.ext hx2).ext hx3; have H6 := (H2.ext hx2).ext hx3; clear ho3 H1 H2 H3)
    | (at_builtin; refine appb (.tmp 27) (.tmp 28) rfl rfl rfl rfl own_empty (H6.ext ((Ext.refl _).alloc _)) hbb (by simp) ?_; intro v4 w4 ho4 hb4 hg4; have H7 := ho4.byt; have hx4 := ext_alloc_below hb4; clear ho4 hb4 hg4)
    | (go_at_call 11; refine (ReadNum_any v4 lb _ hlb H7 (by omega)).mono ?_; rintro e w5 ⟨v5, rfl, ho5, hx5⟩; have K3 := ho5.byt.ext (Ext.refl _).drew; have K2 := ((H4.ext hx4).ext hx5).ext (Ext.refl _).drew; have K0 := ((H5.ext hx4).ext hx5).ext (Ext.refl _).drew; have K1 := ((H6.ext hx4).ext hx5).ext (Ext.refl _).drew; have hX := ((((hx1.trans hx2).trans hx3).trans hx4).trans hx5).drew; clear ho5 H4 H5 H6 H7))
  rw [Ea.out, Eb.out]
  refine wp_region_linR (by kernel_rfl) (by kernel_rfl) ?_
  refine LinR.step (s := (.val (.int .i64 0))) [(7, none)] rfl (by kernel_rfl) (op_out 7 (.int .i64 0) rfl (.inl rfl) rfl) ?_
  refine LinR.step (s := (.val (.bool true))) [(34, some 0)] rfl (by kernel_rfl) (op_runs rfl fun σ w' hx hg => ⟨(.bool true), by have h34 : σ.tmps.getD 34 undef = .int .i64 0 := hg.1; unfold Runs execOp; simp [Act.eval, h34, go_sem], rfl⟩) ?_
  refine LinR.step (s := (.val (.bool true))) [(35, some 0)] rfl (by kernel_rfl) (op_copy 35 0 (.val (.bool true)) rfl (.inl rfl) rfl) ?_
  refine LinR.step (s := (.val (.int .u64 ((rd la).1 : Nat)))) [(5, none), (36, some 0)] rfl (by kernel_rfl) (op_yes (reads := [(5, none)]) 2 36 0 true rfl rfl rfl (op_out 5 (.int .u64 ((rd la).1 : Nat)) rfl (.inl rfl) rfl)) ?_
  refine LinR.step (s := (.sl (u8s (numL (rd la).1)))) [(37, some 0), (36, some 1)] rfl (by kernel_rfl) (op_yes (reads := [(37, some 0)]) 2 36 1 true rfl rfl rfl (op_calls 14 #[(.tmp 37)] #[22] (fun σ => #[.int .u64 ((rd la).1 : Nat)]) rfl rfl (fun _ _ => rfl) fun σ w' hx hg => ⟨by have h37 : σ.tmps.getD 37 undef = .int .u64 ((rd la).1 : Nat) := hg.1; simp only [List.map_toArray, List.map_cons, List.map_nil, Act.eval]; rw [h37], numR (rd la).1 w' hna64⟩)) ?_
  refine LinR.step (s := (.val (.string (strN (numL (rd la).1))))) [(38, some 0), (36, some 2)] rfl (by kernel_rfl) (op_yes (reads := [(38, some 0)]) 2 36 2 true rfl rfl rfl (op_runs rfl fun σ w' hx hg => ⟨_, runs_str (ρ := σ.eval) (w := w') (.tmp 38) rfl (rfl) hg.1, rfl⟩)) ?_
  refine LinR.step (s := (.val (v3))) [(6, none), (36, some 3)] rfl (by kernel_rfl) (op_yes (reads := [(6, none)]) 2 36 3 true rfl rfl rfl (op_out 6 (v3) rfl (.inl rfl) rfl)) ?_
  refine LinR.step (s := (.val (.string (strN (rdRest la))))) [(40, some 0), (36, some 4)] rfl (by kernel_rfl) (op_yes (reads := [(40, some 0)]) 2 36 4 true rfl rfl rfl (op_runs rfl fun σ w' hx hg => ⟨_, runs_str (ρ := σ.eval) (w := w') (.tmp 40) rfl (hg.1) (K2.ext hx), rfl⟩)) ?_
  refine LinR.step (s := (.val (.string (strN la)))) [(39, some 2), (41, some 0), (36, some 5)] rfl (by kernel_rfl) (op_yes (reads := [(39, some 2), (41, some 0)]) 2 36 5 true rfl rfl rfl (op_runs rfl fun σ w' hx hg => ⟨_, runs_cat (ρ := σ.eval) (w := w') (.tmp 39) (.tmp 41) rfl hg.1 hg.2.1 Hcat.out hcs, rfl⟩)) ?_
  refine LinR.step (s := (.val (va))) [(0, none), (36, some 6)] rfl (by kernel_rfl) (op_yes (reads := [(0, none)]) 2 36 6 true rfl rfl rfl (op_out 0 (va) rfl (.inl rfl) rfl)) ?_
  refine LinR.step (s := (.val (.string (strN la)))) [(43, some 0), (36, some 7)] rfl (by kernel_rfl) (op_yes (reads := [(43, some 0)]) 2 36 7 true rfl rfl rfl (op_runs rfl fun σ w' hx hg => ⟨_, runs_str (ρ := σ.eval) (w := w') (.tmp 43) rfl (hg.1) (K0.ext hx), rfl⟩)) ?_
  refine LinR.step (s := (.val (.bool false))) [(42, some 2), (44, some 0), (36, some 8)] rfl (by kernel_rfl) (op_yes (reads := [(42, some 2), (44, some 0)]) 2 36 8 true rfl rfl rfl (op_runs rfl fun σ w' hx hg => ⟨(.bool false), by have h42 : σ.tmps.getD 42 undef = .string (strN la) := hg.1; have h44 : σ.tmps.getD 44 undef = .string (strN la) := hg.2.1; unfold Runs execOp; simp [Act.eval, h42, h44, go_sem], rfl⟩)) ?_
  refine LinR.step (s := (.val (.bool false))) [(36, some 9), (45, some 0)] rfl (by kernel_rfl) (op_runs rfl fun σ w' hx hg => ⟨(.bool false), runs_pick_t (ρ := σ.eval) (w := w') (.tmp 36) (.tmp 45) (.const (.bool false)) rfl hg.1 hg.2.1, rfl⟩) ?_
  refine LinR.step (s := (.val (.bool false))) [(46, some 0)] rfl (by kernel_rfl) (op_copy 46 0 (.val (.bool false)) rfl (.inl rfl) rfl) ?_
  refine LinR.step (s := (.val (.int .i64 0))) [(7, none), (47, some 0)] rfl (by kernel_rfl) (op_yes (reads := [(7, none)]) 13 47 0 false rfl rfl rfl (op_out 7 (.int .i64 0) rfl (.inl rfl) rfl)) ?_
  refine LinR.step (s := (.val (.bool true))) [(48, some 0), (47, some 1)] rfl (by kernel_rfl) (op_yes (reads := [(48, some 0)]) 13 47 1 false rfl rfl rfl (op_runs rfl fun σ w' hx hg => ⟨(.bool true), by have h48 : σ.tmps.getD 48 undef = .int .i64 0 := hg.1; unfold Runs execOp; simp [Act.eval, h48, go_sem], rfl⟩)) ?_
  refine LinR.step (s := (.val (.bool true))) [(49, some 0), (47, some 2)] rfl (by kernel_rfl) (op_yes (reads := [(49, some 0)]) 13 47 2 false rfl rfl rfl (op_copy 49 0 (.val (.bool true)) rfl (.inl rfl) rfl)) ?_
  refine LinR.step (s := (.val (.int .i64 0))) [(10, none), (50, some 0)] rfl (by kernel_rfl) (op_yes (reads := [(10, none)]) 16 50 0 true rfl rfl rfl (op_out 10 (.int .i64 0) rfl (.inl rfl) rfl)) ?_
  refine LinR.step (s := (.val (.bool true))) [(51, some 0), (50, some 1)] rfl (by kernel_rfl) (op_yes (reads := [(51, some 0)]) 16 50 1 true rfl rfl rfl (op_runs rfl fun σ w' hx hg => ⟨(.bool true), by have h51 : σ.tmps.getD 51 undef = .int .i64 0 := hg.1; unfold Runs execOp; simp [Act.eval, h51, go_sem], rfl⟩)) ?_
  refine LinR.step (s := (.val (.bool true))) [(50, some 2), (52, some 0), (47, some 5)] rfl (by kernel_rfl) (op_yes (reads := [(50, some 2), (52, some 0)]) 13 47 5 false rfl rfl rfl (op_runs rfl fun σ w' hx hg => ⟨(.bool true), runs_pick_t (ρ := σ.eval) (w := w') (.tmp 50) (.tmp 52) (.const (.bool false)) rfl hg.1 hg.2.1, rfl⟩)) ?_
  refine LinR.step (s := (.val (.bool true))) [(53, some 0), (47, some 6)] rfl (by kernel_rfl) (op_yes (reads := [(53, some 0)]) 13 47 6 false rfl rfl rfl (op_copy 53 0 (.val (.bool true)) rfl (.inl rfl) rfl)) ?_
  refine LinR.step (s := (.val (.int .u64 ((rd la).1 : Nat)))) [(5, none), (54, some 0)] rfl (by kernel_rfl) (op_yes (reads := [(5, none)]) 20 54 0 true rfl rfl rfl (op_out 5 (.int .u64 ((rd la).1 : Nat)) rfl (.inl rfl) rfl)) ?_
  refine LinR.step (s := (.val (.int .u64 ((rd lb).1 : Nat)))) [(8, none), (54, some 1)] rfl (by kernel_rfl) (op_yes (reads := [(8, none)]) 20 54 1 true rfl rfl rfl (op_out 8 (.int .u64 ((rd lb).1 : Nat)) rfl (.inl rfl) rfl)) ?_
  refine LinR.step (s := (.val (.bool true))) [(55, some 1), (56, some 0), (54, some 2)] rfl (by kernel_rfl) (op_yes (reads := [(55, some 1), (56, some 0)]) 20 54 2 true rfl rfl rfl (op_runs rfl fun σ w' hx hg => ⟨(.bool true), by have h55 : σ.tmps.getD 55 undef = .int .u64 ((rd la).1 : Nat) := hg.1; have h56 : σ.tmps.getD 56 undef = .int .u64 ((rd lb).1 : Nat) := hg.2.1; unfold Runs execOp; simp [Act.eval, h55, h56, go_sem, HN.out], rfl⟩)) ?_
  refine LinR.step (s := (.val (.bool true))) [(57, some 0), (54, some 3)] rfl (by kernel_rfl) (op_yes (reads := [(57, some 0)]) 20 54 3 true rfl rfl rfl (op_copy 57 0 (.val (.bool true)) rfl (.inl rfl) rfl)) ?_
  refine LinR.step (s := (.val (v3))) [(6, none), (58, some 0)] rfl (by kernel_rfl) (op_yes (reads := [(6, none)]) 24 58 0 true rfl rfl rfl (op_out 6 (v3) rfl (.inl rfl) rfl)) ?_
  refine LinR.step (s := (.val (.string (strN (rdRest la))))) [(59, some 0), (58, some 1)] rfl (by kernel_rfl) (op_yes (reads := [(59, some 0)]) 24 58 1 true rfl rfl rfl (op_runs rfl fun σ w' hx hg => ⟨_, runs_str (ρ := σ.eval) (w := w') (.tmp 59) rfl (hg.1) (K2.ext hx), rfl⟩)) ?_
  refine LinR.step (s := (.val (v5))) [(9, none), (58, some 2)] rfl (by kernel_rfl) (op_yes (reads := [(9, none)]) 24 58 2 true rfl rfl rfl (op_out 9 (v5) rfl (.inl rfl) rfl)) ?_
  refine LinR.step (s := (.val (.string (strN (rdRest lb))))) [(61, some 0), (58, some 3)] rfl (by kernel_rfl) (op_yes (reads := [(61, some 0)]) 24 58 3 true rfl rfl rfl (op_runs rfl fun σ w' hx hg => ⟨_, runs_str (ρ := σ.eval) (w := w') (.tmp 61) rfl (hg.1) (K3.ext hx), rfl⟩)) ?_
  refine LinR.step (s := (.val (.bool true))) [(60, some 2), (62, some 0), (58, some 4)] rfl (by kernel_rfl) (op_yes (reads := [(60, some 2), (62, some 0)]) 24 58 4 true rfl rfl rfl (op_runs rfl fun σ w' hx hg => ⟨(.bool true), by have h60 : σ.tmps.getD 60 undef = .string (strN (rdRest la)) := hg.1; have h62 : σ.tmps.getD 62 undef = .string (strN (rdRest lb)) := hg.2.1; unfold Runs execOp; simp [Act.eval, h60, h62, go_sem, HR.out], rfl⟩)) ?_
  refine LinR.step (s := (.val (.bool true))) [(58, some 5), (63, some 0), (54, some 9)] rfl (by kernel_rfl) (op_yes (reads := [(58, some 5), (63, some 0)]) 20 54 9 true rfl rfl rfl (op_runs rfl fun σ w' hx hg => ⟨(.bool true), runs_pick_t (ρ := σ.eval) (w := w') (.tmp 58) (.tmp 63) (.const (.bool false)) rfl hg.1 hg.2.1, rfl⟩)) ?_
  refine LinR.step (s := (.val (va))) [(0, none), (54, some 10)] rfl (by kernel_rfl) (op_yes (reads := [(0, none)]) 20 54 10 true rfl rfl rfl (op_out 0 (va) rfl (.inl rfl) rfl)) ?_
  refine LinR.step (s := (.val (.string (strN la)))) [(65, some 0), (54, some 11)] rfl (by kernel_rfl) (op_yes (reads := [(65, some 0)]) 20 54 11 true rfl rfl rfl (op_runs rfl fun σ w' hx hg => ⟨_, runs_str (ρ := σ.eval) (w := w') (.tmp 65) rfl (hg.1) (K0.ext hx), rfl⟩)) ?_
  refine LinR.step (s := (.val (vb))) [(1, none), (54, some 12)] rfl (by kernel_rfl) (op_yes (reads := [(1, none)]) 20 54 12 true rfl rfl rfl (op_out 1 (vb) rfl (.inl rfl) rfl)) ?_
  refine LinR.step (s := (.val (.string (strN lb)))) [(67, some 0), (54, some 13)] rfl (by kernel_rfl) (op_yes (reads := [(67, some 0)]) 20 54 13 true rfl rfl rfl (op_runs rfl fun σ w' hx hg => ⟨_, runs_str (ρ := σ.eval) (w := w') (.tmp 67) rfl (hg.1) (K1.ext hx), rfl⟩)) ?_
  refine LinR.step (s := (.val (.bool true))) [(66, some 2), (68, some 0), (54, some 14)] rfl (by kernel_rfl) (op_yes (reads := [(66, some 2), (68, some 0)]) 20 54 14 true rfl rfl rfl (op_runs rfl fun σ w' hx hg => ⟨(.bool true), by have h66 : σ.tmps.getD 66 undef = .string (strN la) := hg.1; have h68 : σ.tmps.getD 68 undef = .string (strN lb) := hg.2.1; unfold Runs execOp; simp [Act.eval, h66, h68, go_sem, Hab.out], rfl⟩)) ?_
  refine LinR.step (s := (.val (.bool false))) [(64, some 5), (69, some 0), (54, some 15)] rfl (by kernel_rfl) (op_yes (reads := [(64, some 5), (69, some 0)]) 20 54 15 true rfl rfl rfl (op_runs rfl fun σ w' hx hg => ⟨(.bool false), by have h64 : σ.tmps.getD 64 undef = .bool true := hg.1; have h69 : σ.tmps.getD 69 undef = .bool true := hg.2.1; unfold Runs execOp; simp [Act.eval, h64, h69, go_sem], rfl⟩)) ?_
  refine LinR.step (s := (.val (.bool false))) [(54, some 16), (70, some 0), (47, some 23)] rfl (by kernel_rfl) (op_yes (reads := [(54, some 16), (70, some 0)]) 13 47 23 false rfl rfl rfl (op_runs rfl fun σ w' hx hg => ⟨(.bool false), runs_pick_t (ρ := σ.eval) (w := w') (.tmp 54) (.tmp 70) (.const (.bool false)) rfl hg.1 hg.2.1, rfl⟩)) ?_
  refine LinR.step (s := (.val (.bool false))) [(47, some 24), (71, some 0)] rfl (by kernel_rfl) (op_runs rfl fun σ w' hx hg => ⟨(.bool false), runs_pick_f (ρ := σ.eval) (w := w') (.tmp 47) (.const (.bool true)) (.tmp 71) rfl hg.1 hg.2.1, rfl⟩) ?_
  intro wN hxN
  simp only [Fin', Sp.ptr, List.reverse_cons, List.reverse_nil, List.nil_append, List.cons_append]
  intro q38 hq38
  simp only [Act.put, List.setIfInBounds_toArray, List.set_cons_zero, List.set_cons_succ]
  have L0 := K0.ext hxN
  have hY := hX.trans hxN
  clear K0 K1 K2 K3 hX hxN
  go_wp2_with (first
    | (at_builtin; refine appb (.tmp 74) (.tmp 75) rfl rfl rfl rfl own_empty (L0.ext ((Ext.refl _).alloc _)) hba (by simp) ?_; intro v6 w6 ho6 hb6 hg6; have L1 := ho6.byt; have hx6 := ext_alloc_below hb6; clear ho6 hb6 hg6)
    | (go_at_call 23; refine (ReadText_any v6 la _ hla L1 (by omega)).mono ?_; rintro e w7 ⟨v7, v8, rfl, L2, L3, hx7⟩; have L4 := (L0.ext hx6).ext hx7; have hZ := (hY.trans hx6).trans hx7; clear L0 L1 hY; rw [T1.out] at L2; rw [T3.out] at L3; rw [T2.out])
    | (refine b_len _ rfl rfl rfl (by assumption) ?_))
  go_ret
  exact Keep.intro ⟨rfl, hZ⟩

set_option maxRecDepth 100000 in
set_option maxHeartbeats 2000000 in
theorem once_rest_yes (va vb : Value) (la lb : List Nat) (W : World) (ha : Byt W va la) (hb : Byt W vb lb) (hla : ∀ x ∈ la, x < 256) (hlb : ∀ x ∈ lb, x < 256) (hna : la.length ≤ 140737488355328) (hnb : lb.length ≤ 140737488355328) (hA : (rd la).2 ≠ 0) (hB : (rd lb).2 ≠ 0) (hN : (rd la).1 = (rd lb).1) (hR : rdRest la ≠ rdRest lb) (hT : RtOk la) :
    Calls Try.prog 8 #[va, vb] W fun e w' => e = .returned (.bool true) ∧ Ext W w' := by
  refine calls_keep ?_
  have hba : ([] : List Nat).length + la.length ≤ 140737488355328 := by simpa using hna
  have hbb : ([] : List Nat).length + lb.length ≤ 140737488355328 := by simpa using hnb
  have Ea := hide_ (show rdErr la = 0 from by rw [rdErr, if_neg hA])
  obtain ⟨hwa, hna64⟩ := rd_whole hla hA
  have Hcat := hide_ (show strN (numL (rd la).1) ++ strN (rdRest la) = strN la from by rw [← strN_append, hwa])
  have hcs : (strN (numL (rd la).1)).size + (strN (rdRest la)).size ≤ 9223372036854775807 := by
    rw [strN_size, strN_size, ← List.length_append, hwa]; omega
  have Eb := hide_ (show rdErr lb = 0 from by rw [rdErr, if_neg hB])
  obtain ⟨hwb, -⟩ := rd_whole hlb hB
  have Hne : Hid (¬ (strN la).toList = (strN lb).toList) := fun hs => by
    have hll := strN_inj hla hlb (bytes_ext hs)
    exact hR (by rw [hll])
  have HR : Hid (¬ (strN (rdRest la)).toList = (strN (rdRest lb)).toList) := fun hs => hR (strN_inj (rdRest_lt hla) (rdRest_lt hlb) (bytes_ext hs))
  have HN := hide_ hN
  obtain ⟨hx0, hx1, hx2, hx3⟩ := rt_whole hla hT
  have T1 := hide_ hx0
  have T2 := hide_ (show rtErr la = 0 from by rw [rtErr, if_pos hT])
  have T3 : strN (txL (rtL la)) ++ strN (rtRest la) = strN la := by rw [← strN_append, hx1]
  have hT3 : (strN (txL (rtL la))).size + (strN (rtRest la)).size ≤ 9223372036854775807 := by
    rw [strN_size, strN_size, ← List.length_append, hx1]; omega
  clear hx0 hx1 hx2 hx3
  clear hT hA hwa hB hwb hN hR
  go_enter Try.func8, Try.ntmps8
  go_upto_region 5 with (first
    | (go_at_call 12; refine (alive_any _).mono ?_; rintro e w1 ⟨rfl, hx1⟩; have H1 := ha.ext hx1; have H2 := hb.ext hx1)
    | (at_builtin; refine appb (.tmp 19) (.tmp 20) rfl rfl rfl rfl own_empty (H1.ext ((Ext.refl _).alloc _)) hba (by simp) ?_; intro v2 w2 ho2 hb2 hg2; have H3 := ho2.byt; have hx2 := ext_alloc_below hb2; clear ho2 hb2 hg2)
    | (go_at_call 11; refine (ReadNum_any v2 la _ hla H3 (by omega)).mono ?_; rintro e w3 ⟨v3, rfl, ho3, hx3⟩; have H4 := ho3.byt; have H5 := (H1.ext hx2).ext hx3; have H6 := (H2.ext hx2).ext hx3; clear ho3 H1 H2 H3)
    | (at_builtin; refine appb (.tmp 27) (.tmp 28) rfl rfl rfl rfl own_empty (H6.ext ((Ext.refl _).alloc _)) hbb (by simp) ?_; intro v4 w4 ho4 hb4 hg4; have H7 := ho4.byt; have hx4 := ext_alloc_below hb4; clear ho4 hb4 hg4)
    | (go_at_call 11; refine (ReadNum_any v4 lb _ hlb H7 (by omega)).mono ?_; rintro e w5 ⟨v5, rfl, ho5, hx5⟩; have K3 := ho5.byt.ext (Ext.refl _).drew; have K2 := ((H4.ext hx4).ext hx5).ext (Ext.refl _).drew; have K0 := ((H5.ext hx4).ext hx5).ext (Ext.refl _).drew; have K1 := ((H6.ext hx4).ext hx5).ext (Ext.refl _).drew; have hX := ((((hx1.trans hx2).trans hx3).trans hx4).trans hx5).drew; clear ho5 H4 H5 H6 H7))
  rw [Ea.out, Eb.out]
  refine wp_region_linR (by kernel_rfl) (by kernel_rfl) ?_
  refine LinR.step (s := (.val (.int .i64 0))) [(7, none)] rfl (by kernel_rfl) (op_out 7 (.int .i64 0) rfl (.inl rfl) rfl) ?_
  refine LinR.step (s := (.val (.bool true))) [(34, some 0)] rfl (by kernel_rfl) (op_runs rfl fun σ w' hx hg => ⟨(.bool true), by have h34 : σ.tmps.getD 34 undef = .int .i64 0 := hg.1; unfold Runs execOp; simp [Act.eval, h34, go_sem], rfl⟩) ?_
  refine LinR.step (s := (.val (.bool true))) [(35, some 0)] rfl (by kernel_rfl) (op_copy 35 0 (.val (.bool true)) rfl (.inl rfl) rfl) ?_
  refine LinR.step (s := (.val (.int .u64 ((rd la).1 : Nat)))) [(5, none), (36, some 0)] rfl (by kernel_rfl) (op_yes (reads := [(5, none)]) 2 36 0 true rfl rfl rfl (op_out 5 (.int .u64 ((rd la).1 : Nat)) rfl (.inl rfl) rfl)) ?_
  refine LinR.step (s := (.sl (u8s (numL (rd la).1)))) [(37, some 0), (36, some 1)] rfl (by kernel_rfl) (op_yes (reads := [(37, some 0)]) 2 36 1 true rfl rfl rfl (op_calls 14 #[(.tmp 37)] #[22] (fun σ => #[.int .u64 ((rd la).1 : Nat)]) rfl rfl (fun _ _ => rfl) fun σ w' hx hg => ⟨by have h37 : σ.tmps.getD 37 undef = .int .u64 ((rd la).1 : Nat) := hg.1; simp only [List.map_toArray, List.map_cons, List.map_nil, Act.eval]; rw [h37], numR (rd la).1 w' hna64⟩)) ?_
  refine LinR.step (s := (.val (.string (strN (numL (rd la).1))))) [(38, some 0), (36, some 2)] rfl (by kernel_rfl) (op_yes (reads := [(38, some 0)]) 2 36 2 true rfl rfl rfl (op_runs rfl fun σ w' hx hg => ⟨_, runs_str (ρ := σ.eval) (w := w') (.tmp 38) rfl (rfl) hg.1, rfl⟩)) ?_
  refine LinR.step (s := (.val (v3))) [(6, none), (36, some 3)] rfl (by kernel_rfl) (op_yes (reads := [(6, none)]) 2 36 3 true rfl rfl rfl (op_out 6 (v3) rfl (.inl rfl) rfl)) ?_
  refine LinR.step (s := (.val (.string (strN (rdRest la))))) [(40, some 0), (36, some 4)] rfl (by kernel_rfl) (op_yes (reads := [(40, some 0)]) 2 36 4 true rfl rfl rfl (op_runs rfl fun σ w' hx hg => ⟨_, runs_str (ρ := σ.eval) (w := w') (.tmp 40) rfl (hg.1) (K2.ext hx), rfl⟩)) ?_
  refine LinR.step (s := (.val (.string (strN la)))) [(39, some 2), (41, some 0), (36, some 5)] rfl (by kernel_rfl) (op_yes (reads := [(39, some 2), (41, some 0)]) 2 36 5 true rfl rfl rfl (op_runs rfl fun σ w' hx hg => ⟨_, runs_cat (ρ := σ.eval) (w := w') (.tmp 39) (.tmp 41) rfl hg.1 hg.2.1 Hcat.out hcs, rfl⟩)) ?_
  refine LinR.step (s := (.val (va))) [(0, none), (36, some 6)] rfl (by kernel_rfl) (op_yes (reads := [(0, none)]) 2 36 6 true rfl rfl rfl (op_out 0 (va) rfl (.inl rfl) rfl)) ?_
  refine LinR.step (s := (.val (.string (strN la)))) [(43, some 0), (36, some 7)] rfl (by kernel_rfl) (op_yes (reads := [(43, some 0)]) 2 36 7 true rfl rfl rfl (op_runs rfl fun σ w' hx hg => ⟨_, runs_str (ρ := σ.eval) (w := w') (.tmp 43) rfl (hg.1) (K0.ext hx), rfl⟩)) ?_
  refine LinR.step (s := (.val (.bool false))) [(42, some 2), (44, some 0), (36, some 8)] rfl (by kernel_rfl) (op_yes (reads := [(42, some 2), (44, some 0)]) 2 36 8 true rfl rfl rfl (op_runs rfl fun σ w' hx hg => ⟨(.bool false), by have h42 : σ.tmps.getD 42 undef = .string (strN la) := hg.1; have h44 : σ.tmps.getD 44 undef = .string (strN la) := hg.2.1; unfold Runs execOp; simp [Act.eval, h42, h44, go_sem], rfl⟩)) ?_
  refine LinR.step (s := (.val (.bool false))) [(36, some 9), (45, some 0)] rfl (by kernel_rfl) (op_runs rfl fun σ w' hx hg => ⟨(.bool false), runs_pick_t (ρ := σ.eval) (w := w') (.tmp 36) (.tmp 45) (.const (.bool false)) rfl hg.1 hg.2.1, rfl⟩) ?_
  refine LinR.step (s := (.val (.bool false))) [(46, some 0)] rfl (by kernel_rfl) (op_copy 46 0 (.val (.bool false)) rfl (.inl rfl) rfl) ?_
  refine LinR.step (s := (.val (.int .i64 0))) [(7, none), (47, some 0)] rfl (by kernel_rfl) (op_yes (reads := [(7, none)]) 13 47 0 false rfl rfl rfl (op_out 7 (.int .i64 0) rfl (.inl rfl) rfl)) ?_
  refine LinR.step (s := (.val (.bool true))) [(48, some 0), (47, some 1)] rfl (by kernel_rfl) (op_yes (reads := [(48, some 0)]) 13 47 1 false rfl rfl rfl (op_runs rfl fun σ w' hx hg => ⟨(.bool true), by have h48 : σ.tmps.getD 48 undef = .int .i64 0 := hg.1; unfold Runs execOp; simp [Act.eval, h48, go_sem], rfl⟩)) ?_
  refine LinR.step (s := (.val (.bool true))) [(49, some 0), (47, some 2)] rfl (by kernel_rfl) (op_yes (reads := [(49, some 0)]) 13 47 2 false rfl rfl rfl (op_copy 49 0 (.val (.bool true)) rfl (.inl rfl) rfl)) ?_
  refine LinR.step (s := (.val (.int .i64 0))) [(10, none), (50, some 0)] rfl (by kernel_rfl) (op_yes (reads := [(10, none)]) 16 50 0 true rfl rfl rfl (op_out 10 (.int .i64 0) rfl (.inl rfl) rfl)) ?_
  refine LinR.step (s := (.val (.bool true))) [(51, some 0), (50, some 1)] rfl (by kernel_rfl) (op_yes (reads := [(51, some 0)]) 16 50 1 true rfl rfl rfl (op_runs rfl fun σ w' hx hg => ⟨(.bool true), by have h51 : σ.tmps.getD 51 undef = .int .i64 0 := hg.1; unfold Runs execOp; simp [Act.eval, h51, go_sem], rfl⟩)) ?_
  refine LinR.step (s := (.val (.bool true))) [(50, some 2), (52, some 0), (47, some 5)] rfl (by kernel_rfl) (op_yes (reads := [(50, some 2), (52, some 0)]) 13 47 5 false rfl rfl rfl (op_runs rfl fun σ w' hx hg => ⟨(.bool true), runs_pick_t (ρ := σ.eval) (w := w') (.tmp 50) (.tmp 52) (.const (.bool false)) rfl hg.1 hg.2.1, rfl⟩)) ?_
  refine LinR.step (s := (.val (.bool true))) [(53, some 0), (47, some 6)] rfl (by kernel_rfl) (op_yes (reads := [(53, some 0)]) 13 47 6 false rfl rfl rfl (op_copy 53 0 (.val (.bool true)) rfl (.inl rfl) rfl)) ?_
  refine LinR.step (s := (.val (.int .u64 ((rd la).1 : Nat)))) [(5, none), (54, some 0)] rfl (by kernel_rfl) (op_yes (reads := [(5, none)]) 20 54 0 true rfl rfl rfl (op_out 5 (.int .u64 ((rd la).1 : Nat)) rfl (.inl rfl) rfl)) ?_
  refine LinR.step (s := (.val (.int .u64 ((rd lb).1 : Nat)))) [(8, none), (54, some 1)] rfl (by kernel_rfl) (op_yes (reads := [(8, none)]) 20 54 1 true rfl rfl rfl (op_out 8 (.int .u64 ((rd lb).1 : Nat)) rfl (.inl rfl) rfl)) ?_
  refine LinR.step (s := (.val (.bool true))) [(55, some 1), (56, some 0), (54, some 2)] rfl (by kernel_rfl) (op_yes (reads := [(55, some 1), (56, some 0)]) 20 54 2 true rfl rfl rfl (op_runs rfl fun σ w' hx hg => ⟨(.bool true), by have h55 : σ.tmps.getD 55 undef = .int .u64 ((rd la).1 : Nat) := hg.1; have h56 : σ.tmps.getD 56 undef = .int .u64 ((rd lb).1 : Nat) := hg.2.1; unfold Runs execOp; simp [Act.eval, h55, h56, go_sem, HN.out], rfl⟩)) ?_
  refine LinR.step (s := (.val (.bool true))) [(57, some 0), (54, some 3)] rfl (by kernel_rfl) (op_yes (reads := [(57, some 0)]) 20 54 3 true rfl rfl rfl (op_copy 57 0 (.val (.bool true)) rfl (.inl rfl) rfl)) ?_
  refine LinR.step (s := (.val (v3))) [(6, none), (58, some 0)] rfl (by kernel_rfl) (op_yes (reads := [(6, none)]) 24 58 0 true rfl rfl rfl (op_out 6 (v3) rfl (.inl rfl) rfl)) ?_
  refine LinR.step (s := (.val (.string (strN (rdRest la))))) [(59, some 0), (58, some 1)] rfl (by kernel_rfl) (op_yes (reads := [(59, some 0)]) 24 58 1 true rfl rfl rfl (op_runs rfl fun σ w' hx hg => ⟨_, runs_str (ρ := σ.eval) (w := w') (.tmp 59) rfl (hg.1) (K2.ext hx), rfl⟩)) ?_
  refine LinR.step (s := (.val (v5))) [(9, none), (58, some 2)] rfl (by kernel_rfl) (op_yes (reads := [(9, none)]) 24 58 2 true rfl rfl rfl (op_out 9 (v5) rfl (.inl rfl) rfl)) ?_
  refine LinR.step (s := (.val (.string (strN (rdRest lb))))) [(61, some 0), (58, some 3)] rfl (by kernel_rfl) (op_yes (reads := [(61, some 0)]) 24 58 3 true rfl rfl rfl (op_runs rfl fun σ w' hx hg => ⟨_, runs_str (ρ := σ.eval) (w := w') (.tmp 61) rfl (hg.1) (K3.ext hx), rfl⟩)) ?_
  refine LinR.step (s := (.val (.bool false))) [(60, some 2), (62, some 0), (58, some 4)] rfl (by kernel_rfl) (op_yes (reads := [(60, some 2), (62, some 0)]) 24 58 4 true rfl rfl rfl (op_runs rfl fun σ w' hx hg => ⟨(.bool false), by have h60 : σ.tmps.getD 60 undef = .string (strN (rdRest la)) := hg.1; have h62 : σ.tmps.getD 62 undef = .string (strN (rdRest lb)) := hg.2.1; unfold Runs execOp; simp [Act.eval, h60, h62, go_sem, HR.out], rfl⟩)) ?_
  refine LinR.step (s := (.val (.bool false))) [(58, some 5), (63, some 0), (54, some 9)] rfl (by kernel_rfl) (op_yes (reads := [(58, some 5), (63, some 0)]) 20 54 9 true rfl rfl rfl (op_runs rfl fun σ w' hx hg => ⟨(.bool false), runs_pick_t (ρ := σ.eval) (w := w') (.tmp 58) (.tmp 63) (.const (.bool false)) rfl hg.1 hg.2.1, rfl⟩)) ?_
  refine LinR.step (s := (.val (va))) [(0, none), (54, some 10)] rfl (by kernel_rfl) (op_yes (reads := [(0, none)]) 20 54 10 true rfl rfl rfl (op_out 0 (va) rfl (.inl rfl) rfl)) ?_
  refine LinR.step (s := (.val (.string (strN la)))) [(65, some 0), (54, some 11)] rfl (by kernel_rfl) (op_yes (reads := [(65, some 0)]) 20 54 11 true rfl rfl rfl (op_runs rfl fun σ w' hx hg => ⟨_, runs_str (ρ := σ.eval) (w := w') (.tmp 65) rfl (hg.1) (K0.ext hx), rfl⟩)) ?_
  refine LinR.step (s := (.val (vb))) [(1, none), (54, some 12)] rfl (by kernel_rfl) (op_yes (reads := [(1, none)]) 20 54 12 true rfl rfl rfl (op_out 1 (vb) rfl (.inl rfl) rfl)) ?_
  refine LinR.step (s := (.val (.string (strN lb)))) [(67, some 0), (54, some 13)] rfl (by kernel_rfl) (op_yes (reads := [(67, some 0)]) 20 54 13 true rfl rfl rfl (op_runs rfl fun σ w' hx hg => ⟨_, runs_str (ρ := σ.eval) (w := w') (.tmp 67) rfl (hg.1) (K1.ext hx), rfl⟩)) ?_
  refine LinR.step (s := (.val (.bool false))) [(66, some 2), (68, some 0), (54, some 14)] rfl (by kernel_rfl) (op_yes (reads := [(66, some 2), (68, some 0)]) 20 54 14 true rfl rfl rfl (op_runs rfl fun σ w' hx hg => ⟨(.bool false), by have h66 : σ.tmps.getD 66 undef = .string (strN la) := hg.1; have h68 : σ.tmps.getD 68 undef = .string (strN lb) := hg.2.1; unfold Runs execOp; simp [Act.eval, h66, h68, go_sem, Hne.out], rfl⟩)) ?_
  refine LinR.step (s := (.val (.bool false))) [(64, some 5), (69, some 0), (54, some 15)] rfl (by kernel_rfl) (op_yes (reads := [(64, some 5), (69, some 0)]) 20 54 15 true rfl rfl rfl (op_runs rfl fun σ w' hx hg => ⟨(.bool false), by have h64 : σ.tmps.getD 64 undef = .bool false := hg.1; have h69 : σ.tmps.getD 69 undef = .bool false := hg.2.1; unfold Runs execOp; simp [Act.eval, h64, h69, go_sem], rfl⟩)) ?_
  refine LinR.step (s := (.val (.bool false))) [(54, some 16), (70, some 0), (47, some 23)] rfl (by kernel_rfl) (op_yes (reads := [(54, some 16), (70, some 0)]) 13 47 23 false rfl rfl rfl (op_runs rfl fun σ w' hx hg => ⟨(.bool false), runs_pick_t (ρ := σ.eval) (w := w') (.tmp 54) (.tmp 70) (.const (.bool false)) rfl hg.1 hg.2.1, rfl⟩)) ?_
  refine LinR.step (s := (.val (.bool false))) [(47, some 24), (71, some 0)] rfl (by kernel_rfl) (op_runs rfl fun σ w' hx hg => ⟨(.bool false), runs_pick_f (ρ := σ.eval) (w := w') (.tmp 47) (.const (.bool true)) (.tmp 71) rfl hg.1 hg.2.1, rfl⟩) ?_
  intro wN hxN
  simp only [Fin', Sp.ptr, List.reverse_cons, List.reverse_nil, List.nil_append, List.cons_append]
  intro q38 hq38
  simp only [Act.put, List.setIfInBounds_toArray, List.set_cons_zero, List.set_cons_succ]
  have L0 := K0.ext hxN
  have hY := hX.trans hxN
  clear K0 K1 K2 K3 hX hxN
  go_wp2_with (first
    | (at_builtin; refine appb (.tmp 74) (.tmp 75) rfl rfl rfl rfl own_empty (L0.ext ((Ext.refl _).alloc _)) hba (by simp) ?_; intro v6 w6 ho6 hb6 hg6; have L1 := ho6.byt; have hx6 := ext_alloc_below hb6; clear ho6 hb6 hg6)
    | (go_at_call 23; refine (ReadText_any v6 la _ hla L1 (by omega)).mono ?_; rintro e w7 ⟨v7, v8, rfl, L2, L3, hx7⟩; have L4 := (L0.ext hx6).ext hx7; have hZ := (hY.trans hx6).trans hx7; clear L0 L1 hY; rw [T2.out])
    | (go_at_call 21; refine (Text_any v7 _ _ L2).mono ?_; rintro e w8 ⟨v9, rfl, ho8, hx8⟩; have L5 := ho8.byt; have L6 := L3.ext hx8; have L7 := L4.ext hx8; have hZ' := hZ.trans hx8; clear ho8 L2 L3 L4 hZ; rw [T1.out])
    | (refine w_yes _ _ _ rfl rfl rfl ?_; refine w_cat _ _ rfl rfl rfl rfl T3 hT3 ?_)
    | (refine w_str _ rfl rfl rfl (by assumption) ?_)
    | (refine w_yes _ _ _ rfl rfl rfl ?_; refine w_str _ rfl rfl rfl (by assumption) ?_)
    | (refine b_len _ rfl rfl rfl (by assumption) ?_))
  go_ret
  exact Keep.intro ⟨rfl, hZ'⟩

set_option maxRecDepth 100000 in
set_option maxHeartbeats 2000000 in
theorem once_rest_no (va vb : Value) (la lb : List Nat) (W : World) (ha : Byt W va la) (hb : Byt W vb lb) (hla : ∀ x ∈ la, x < 256) (hlb : ∀ x ∈ lb, x < 256) (hna : la.length ≤ 140737488355328) (hnb : lb.length ≤ 140737488355328) (hA : (rd la).2 ≠ 0) (hB : (rd lb).2 ≠ 0) (hN : (rd la).1 = (rd lb).1) (hR : rdRest la ≠ rdRest lb) (hT : ¬ RtOk la) :
    Calls Try.prog 8 #[va, vb] W fun e w' => e = .returned (.bool true) ∧ Ext W w' := by
  refine calls_keep ?_
  have hba : ([] : List Nat).length + la.length ≤ 140737488355328 := by simpa using hna
  have hbb : ([] : List Nat).length + lb.length ≤ 140737488355328 := by simpa using hnb
  have Ea := hide_ (show rdErr la = 0 from by rw [rdErr, if_neg hA])
  obtain ⟨hwa, hna64⟩ := rd_whole hla hA
  have Hcat := hide_ (show strN (numL (rd la).1) ++ strN (rdRest la) = strN la from by rw [← strN_append, hwa])
  have hcs : (strN (numL (rd la).1)).size + (strN (rdRest la)).size ≤ 9223372036854775807 := by
    rw [strN_size, strN_size, ← List.length_append, hwa]; omega
  have Eb := hide_ (show rdErr lb = 0 from by rw [rdErr, if_neg hB])
  obtain ⟨hwb, -⟩ := rd_whole hlb hB
  have Hne : Hid (¬ (strN la).toList = (strN lb).toList) := fun hs => by
    have hll := strN_inj hla hlb (bytes_ext hs)
    exact hR (by rw [hll])
  have HR : Hid (¬ (strN (rdRest la)).toList = (strN (rdRest lb)).toList) := fun hs => hR (strN_inj (rdRest_lt hla) (rdRest_lt hlb) (bytes_ext hs))
  have HN := hide_ hN
  have T1 := hide_ (show rtL la = [] from by rw [rtL, if_neg hT])
  have T3 := hide_ (show rtRest la = [] from by rw [rtRest, if_neg hT])
  have T2 := hide_ (show rtErr la = 11 from by rw [rtErr, if_neg hT])
  clear hT hA hwa hB hwb hN hR
  go_enter Try.func8, Try.ntmps8
  go_upto_region 5 with (first
    | (go_at_call 12; refine (alive_any _).mono ?_; rintro e w1 ⟨rfl, hx1⟩; have H1 := ha.ext hx1; have H2 := hb.ext hx1)
    | (at_builtin; refine appb (.tmp 19) (.tmp 20) rfl rfl rfl rfl own_empty (H1.ext ((Ext.refl _).alloc _)) hba (by simp) ?_; intro v2 w2 ho2 hb2 hg2; have H3 := ho2.byt; have hx2 := ext_alloc_below hb2; clear ho2 hb2 hg2)
    | (go_at_call 11; refine (ReadNum_any v2 la _ hla H3 (by omega)).mono ?_; rintro e w3 ⟨v3, rfl, ho3, hx3⟩; have H4 := ho3.byt; have H5 := (H1.ext hx2).ext hx3; have H6 := (H2.ext hx2).ext hx3; clear ho3 H1 H2 H3)
    | (at_builtin; refine appb (.tmp 27) (.tmp 28) rfl rfl rfl rfl own_empty (H6.ext ((Ext.refl _).alloc _)) hbb (by simp) ?_; intro v4 w4 ho4 hb4 hg4; have H7 := ho4.byt; have hx4 := ext_alloc_below hb4; clear ho4 hb4 hg4)
    | (go_at_call 11; refine (ReadNum_any v4 lb _ hlb H7 (by omega)).mono ?_; rintro e w5 ⟨v5, rfl, ho5, hx5⟩; have K3 := ho5.byt.ext (Ext.refl _).drew; have K2 := ((H4.ext hx4).ext hx5).ext (Ext.refl _).drew; have K0 := ((H5.ext hx4).ext hx5).ext (Ext.refl _).drew; have K1 := ((H6.ext hx4).ext hx5).ext (Ext.refl _).drew; have hX := ((((hx1.trans hx2).trans hx3).trans hx4).trans hx5).drew; clear ho5 H4 H5 H6 H7))
  rw [Ea.out, Eb.out]
  refine wp_region_linR (by kernel_rfl) (by kernel_rfl) ?_
  refine LinR.step (s := (.val (.int .i64 0))) [(7, none)] rfl (by kernel_rfl) (op_out 7 (.int .i64 0) rfl (.inl rfl) rfl) ?_
  refine LinR.step (s := (.val (.bool true))) [(34, some 0)] rfl (by kernel_rfl) (op_runs rfl fun σ w' hx hg => ⟨(.bool true), by have h34 : σ.tmps.getD 34 undef = .int .i64 0 := hg.1; unfold Runs execOp; simp [Act.eval, h34, go_sem], rfl⟩) ?_
  refine LinR.step (s := (.val (.bool true))) [(35, some 0)] rfl (by kernel_rfl) (op_copy 35 0 (.val (.bool true)) rfl (.inl rfl) rfl) ?_
  refine LinR.step (s := (.val (.int .u64 ((rd la).1 : Nat)))) [(5, none), (36, some 0)] rfl (by kernel_rfl) (op_yes (reads := [(5, none)]) 2 36 0 true rfl rfl rfl (op_out 5 (.int .u64 ((rd la).1 : Nat)) rfl (.inl rfl) rfl)) ?_
  refine LinR.step (s := (.sl (u8s (numL (rd la).1)))) [(37, some 0), (36, some 1)] rfl (by kernel_rfl) (op_yes (reads := [(37, some 0)]) 2 36 1 true rfl rfl rfl (op_calls 14 #[(.tmp 37)] #[22] (fun σ => #[.int .u64 ((rd la).1 : Nat)]) rfl rfl (fun _ _ => rfl) fun σ w' hx hg => ⟨by have h37 : σ.tmps.getD 37 undef = .int .u64 ((rd la).1 : Nat) := hg.1; simp only [List.map_toArray, List.map_cons, List.map_nil, Act.eval]; rw [h37], numR (rd la).1 w' hna64⟩)) ?_
  refine LinR.step (s := (.val (.string (strN (numL (rd la).1))))) [(38, some 0), (36, some 2)] rfl (by kernel_rfl) (op_yes (reads := [(38, some 0)]) 2 36 2 true rfl rfl rfl (op_runs rfl fun σ w' hx hg => ⟨_, runs_str (ρ := σ.eval) (w := w') (.tmp 38) rfl (rfl) hg.1, rfl⟩)) ?_
  refine LinR.step (s := (.val (v3))) [(6, none), (36, some 3)] rfl (by kernel_rfl) (op_yes (reads := [(6, none)]) 2 36 3 true rfl rfl rfl (op_out 6 (v3) rfl (.inl rfl) rfl)) ?_
  refine LinR.step (s := (.val (.string (strN (rdRest la))))) [(40, some 0), (36, some 4)] rfl (by kernel_rfl) (op_yes (reads := [(40, some 0)]) 2 36 4 true rfl rfl rfl (op_runs rfl fun σ w' hx hg => ⟨_, runs_str (ρ := σ.eval) (w := w') (.tmp 40) rfl (hg.1) (K2.ext hx), rfl⟩)) ?_
  refine LinR.step (s := (.val (.string (strN la)))) [(39, some 2), (41, some 0), (36, some 5)] rfl (by kernel_rfl) (op_yes (reads := [(39, some 2), (41, some 0)]) 2 36 5 true rfl rfl rfl (op_runs rfl fun σ w' hx hg => ⟨_, runs_cat (ρ := σ.eval) (w := w') (.tmp 39) (.tmp 41) rfl hg.1 hg.2.1 Hcat.out hcs, rfl⟩)) ?_
  refine LinR.step (s := (.val (va))) [(0, none), (36, some 6)] rfl (by kernel_rfl) (op_yes (reads := [(0, none)]) 2 36 6 true rfl rfl rfl (op_out 0 (va) rfl (.inl rfl) rfl)) ?_
  refine LinR.step (s := (.val (.string (strN la)))) [(43, some 0), (36, some 7)] rfl (by kernel_rfl) (op_yes (reads := [(43, some 0)]) 2 36 7 true rfl rfl rfl (op_runs rfl fun σ w' hx hg => ⟨_, runs_str (ρ := σ.eval) (w := w') (.tmp 43) rfl (hg.1) (K0.ext hx), rfl⟩)) ?_
  refine LinR.step (s := (.val (.bool false))) [(42, some 2), (44, some 0), (36, some 8)] rfl (by kernel_rfl) (op_yes (reads := [(42, some 2), (44, some 0)]) 2 36 8 true rfl rfl rfl (op_runs rfl fun σ w' hx hg => ⟨(.bool false), by have h42 : σ.tmps.getD 42 undef = .string (strN la) := hg.1; have h44 : σ.tmps.getD 44 undef = .string (strN la) := hg.2.1; unfold Runs execOp; simp [Act.eval, h42, h44, go_sem], rfl⟩)) ?_
  refine LinR.step (s := (.val (.bool false))) [(36, some 9), (45, some 0)] rfl (by kernel_rfl) (op_runs rfl fun σ w' hx hg => ⟨(.bool false), runs_pick_t (ρ := σ.eval) (w := w') (.tmp 36) (.tmp 45) (.const (.bool false)) rfl hg.1 hg.2.1, rfl⟩) ?_
  refine LinR.step (s := (.val (.bool false))) [(46, some 0)] rfl (by kernel_rfl) (op_copy 46 0 (.val (.bool false)) rfl (.inl rfl) rfl) ?_
  refine LinR.step (s := (.val (.int .i64 0))) [(7, none), (47, some 0)] rfl (by kernel_rfl) (op_yes (reads := [(7, none)]) 13 47 0 false rfl rfl rfl (op_out 7 (.int .i64 0) rfl (.inl rfl) rfl)) ?_
  refine LinR.step (s := (.val (.bool true))) [(48, some 0), (47, some 1)] rfl (by kernel_rfl) (op_yes (reads := [(48, some 0)]) 13 47 1 false rfl rfl rfl (op_runs rfl fun σ w' hx hg => ⟨(.bool true), by have h48 : σ.tmps.getD 48 undef = .int .i64 0 := hg.1; unfold Runs execOp; simp [Act.eval, h48, go_sem], rfl⟩)) ?_
  refine LinR.step (s := (.val (.bool true))) [(49, some 0), (47, some 2)] rfl (by kernel_rfl) (op_yes (reads := [(49, some 0)]) 13 47 2 false rfl rfl rfl (op_copy 49 0 (.val (.bool true)) rfl (.inl rfl) rfl)) ?_
  refine LinR.step (s := (.val (.int .i64 0))) [(10, none), (50, some 0)] rfl (by kernel_rfl) (op_yes (reads := [(10, none)]) 16 50 0 true rfl rfl rfl (op_out 10 (.int .i64 0) rfl (.inl rfl) rfl)) ?_
  refine LinR.step (s := (.val (.bool true))) [(51, some 0), (50, some 1)] rfl (by kernel_rfl) (op_yes (reads := [(51, some 0)]) 16 50 1 true rfl rfl rfl (op_runs rfl fun σ w' hx hg => ⟨(.bool true), by have h51 : σ.tmps.getD 51 undef = .int .i64 0 := hg.1; unfold Runs execOp; simp [Act.eval, h51, go_sem], rfl⟩)) ?_
  refine LinR.step (s := (.val (.bool true))) [(50, some 2), (52, some 0), (47, some 5)] rfl (by kernel_rfl) (op_yes (reads := [(50, some 2), (52, some 0)]) 13 47 5 false rfl rfl rfl (op_runs rfl fun σ w' hx hg => ⟨(.bool true), runs_pick_t (ρ := σ.eval) (w := w') (.tmp 50) (.tmp 52) (.const (.bool false)) rfl hg.1 hg.2.1, rfl⟩)) ?_
  refine LinR.step (s := (.val (.bool true))) [(53, some 0), (47, some 6)] rfl (by kernel_rfl) (op_yes (reads := [(53, some 0)]) 13 47 6 false rfl rfl rfl (op_copy 53 0 (.val (.bool true)) rfl (.inl rfl) rfl)) ?_
  refine LinR.step (s := (.val (.int .u64 ((rd la).1 : Nat)))) [(5, none), (54, some 0)] rfl (by kernel_rfl) (op_yes (reads := [(5, none)]) 20 54 0 true rfl rfl rfl (op_out 5 (.int .u64 ((rd la).1 : Nat)) rfl (.inl rfl) rfl)) ?_
  refine LinR.step (s := (.val (.int .u64 ((rd lb).1 : Nat)))) [(8, none), (54, some 1)] rfl (by kernel_rfl) (op_yes (reads := [(8, none)]) 20 54 1 true rfl rfl rfl (op_out 8 (.int .u64 ((rd lb).1 : Nat)) rfl (.inl rfl) rfl)) ?_
  refine LinR.step (s := (.val (.bool true))) [(55, some 1), (56, some 0), (54, some 2)] rfl (by kernel_rfl) (op_yes (reads := [(55, some 1), (56, some 0)]) 20 54 2 true rfl rfl rfl (op_runs rfl fun σ w' hx hg => ⟨(.bool true), by have h55 : σ.tmps.getD 55 undef = .int .u64 ((rd la).1 : Nat) := hg.1; have h56 : σ.tmps.getD 56 undef = .int .u64 ((rd lb).1 : Nat) := hg.2.1; unfold Runs execOp; simp [Act.eval, h55, h56, go_sem, HN.out], rfl⟩)) ?_
  refine LinR.step (s := (.val (.bool true))) [(57, some 0), (54, some 3)] rfl (by kernel_rfl) (op_yes (reads := [(57, some 0)]) 20 54 3 true rfl rfl rfl (op_copy 57 0 (.val (.bool true)) rfl (.inl rfl) rfl)) ?_
  refine LinR.step (s := (.val (v3))) [(6, none), (58, some 0)] rfl (by kernel_rfl) (op_yes (reads := [(6, none)]) 24 58 0 true rfl rfl rfl (op_out 6 (v3) rfl (.inl rfl) rfl)) ?_
  refine LinR.step (s := (.val (.string (strN (rdRest la))))) [(59, some 0), (58, some 1)] rfl (by kernel_rfl) (op_yes (reads := [(59, some 0)]) 24 58 1 true rfl rfl rfl (op_runs rfl fun σ w' hx hg => ⟨_, runs_str (ρ := σ.eval) (w := w') (.tmp 59) rfl (hg.1) (K2.ext hx), rfl⟩)) ?_
  refine LinR.step (s := (.val (v5))) [(9, none), (58, some 2)] rfl (by kernel_rfl) (op_yes (reads := [(9, none)]) 24 58 2 true rfl rfl rfl (op_out 9 (v5) rfl (.inl rfl) rfl)) ?_
  refine LinR.step (s := (.val (.string (strN (rdRest lb))))) [(61, some 0), (58, some 3)] rfl (by kernel_rfl) (op_yes (reads := [(61, some 0)]) 24 58 3 true rfl rfl rfl (op_runs rfl fun σ w' hx hg => ⟨_, runs_str (ρ := σ.eval) (w := w') (.tmp 61) rfl (hg.1) (K3.ext hx), rfl⟩)) ?_
  refine LinR.step (s := (.val (.bool false))) [(60, some 2), (62, some 0), (58, some 4)] rfl (by kernel_rfl) (op_yes (reads := [(60, some 2), (62, some 0)]) 24 58 4 true rfl rfl rfl (op_runs rfl fun σ w' hx hg => ⟨(.bool false), by have h60 : σ.tmps.getD 60 undef = .string (strN (rdRest la)) := hg.1; have h62 : σ.tmps.getD 62 undef = .string (strN (rdRest lb)) := hg.2.1; unfold Runs execOp; simp [Act.eval, h60, h62, go_sem, HR.out], rfl⟩)) ?_
  refine LinR.step (s := (.val (.bool false))) [(58, some 5), (63, some 0), (54, some 9)] rfl (by kernel_rfl) (op_yes (reads := [(58, some 5), (63, some 0)]) 20 54 9 true rfl rfl rfl (op_runs rfl fun σ w' hx hg => ⟨(.bool false), runs_pick_t (ρ := σ.eval) (w := w') (.tmp 58) (.tmp 63) (.const (.bool false)) rfl hg.1 hg.2.1, rfl⟩)) ?_
  refine LinR.step (s := (.val (va))) [(0, none), (54, some 10)] rfl (by kernel_rfl) (op_yes (reads := [(0, none)]) 20 54 10 true rfl rfl rfl (op_out 0 (va) rfl (.inl rfl) rfl)) ?_
  refine LinR.step (s := (.val (.string (strN la)))) [(65, some 0), (54, some 11)] rfl (by kernel_rfl) (op_yes (reads := [(65, some 0)]) 20 54 11 true rfl rfl rfl (op_runs rfl fun σ w' hx hg => ⟨_, runs_str (ρ := σ.eval) (w := w') (.tmp 65) rfl (hg.1) (K0.ext hx), rfl⟩)) ?_
  refine LinR.step (s := (.val (vb))) [(1, none), (54, some 12)] rfl (by kernel_rfl) (op_yes (reads := [(1, none)]) 20 54 12 true rfl rfl rfl (op_out 1 (vb) rfl (.inl rfl) rfl)) ?_
  refine LinR.step (s := (.val (.string (strN lb)))) [(67, some 0), (54, some 13)] rfl (by kernel_rfl) (op_yes (reads := [(67, some 0)]) 20 54 13 true rfl rfl rfl (op_runs rfl fun σ w' hx hg => ⟨_, runs_str (ρ := σ.eval) (w := w') (.tmp 67) rfl (hg.1) (K1.ext hx), rfl⟩)) ?_
  refine LinR.step (s := (.val (.bool false))) [(66, some 2), (68, some 0), (54, some 14)] rfl (by kernel_rfl) (op_yes (reads := [(66, some 2), (68, some 0)]) 20 54 14 true rfl rfl rfl (op_runs rfl fun σ w' hx hg => ⟨(.bool false), by have h66 : σ.tmps.getD 66 undef = .string (strN la) := hg.1; have h68 : σ.tmps.getD 68 undef = .string (strN lb) := hg.2.1; unfold Runs execOp; simp [Act.eval, h66, h68, go_sem, Hne.out], rfl⟩)) ?_
  refine LinR.step (s := (.val (.bool false))) [(64, some 5), (69, some 0), (54, some 15)] rfl (by kernel_rfl) (op_yes (reads := [(64, some 5), (69, some 0)]) 20 54 15 true rfl rfl rfl (op_runs rfl fun σ w' hx hg => ⟨(.bool false), by have h64 : σ.tmps.getD 64 undef = .bool false := hg.1; have h69 : σ.tmps.getD 69 undef = .bool false := hg.2.1; unfold Runs execOp; simp [Act.eval, h64, h69, go_sem], rfl⟩)) ?_
  refine LinR.step (s := (.val (.bool false))) [(54, some 16), (70, some 0), (47, some 23)] rfl (by kernel_rfl) (op_yes (reads := [(54, some 16), (70, some 0)]) 13 47 23 false rfl rfl rfl (op_runs rfl fun σ w' hx hg => ⟨(.bool false), runs_pick_t (ρ := σ.eval) (w := w') (.tmp 54) (.tmp 70) (.const (.bool false)) rfl hg.1 hg.2.1, rfl⟩)) ?_
  refine LinR.step (s := (.val (.bool false))) [(47, some 24), (71, some 0)] rfl (by kernel_rfl) (op_runs rfl fun σ w' hx hg => ⟨(.bool false), runs_pick_f (ρ := σ.eval) (w := w') (.tmp 47) (.const (.bool true)) (.tmp 71) rfl hg.1 hg.2.1, rfl⟩) ?_
  intro wN hxN
  simp only [Fin', Sp.ptr, List.reverse_cons, List.reverse_nil, List.nil_append, List.cons_append]
  intro q38 hq38
  simp only [Act.put, List.setIfInBounds_toArray, List.set_cons_zero, List.set_cons_succ]
  have L0 := K0.ext hxN
  have hY := hX.trans hxN
  clear K0 K1 K2 K3 hX hxN
  go_wp2_with (first
    | (at_builtin; refine appb (.tmp 74) (.tmp 75) rfl rfl rfl rfl own_empty (L0.ext ((Ext.refl _).alloc _)) hba (by simp) ?_; intro v6 w6 ho6 hb6 hg6; have L1 := ho6.byt; have hx6 := ext_alloc_below hb6; clear ho6 hb6 hg6)
    | (go_at_call 23; refine (ReadText_any v6 la _ hla L1 (by omega)).mono ?_; rintro e w7 ⟨v7, v8, rfl, L2, L3, hx7⟩; have L4 := (L0.ext hx6).ext hx7; have hZ := (hY.trans hx6).trans hx7; clear L0 L1 hY; rw [T1.out] at L2; rw [T3.out] at L3; rw [T2.out])
    | (refine b_len _ rfl rfl rfl (by assumption) ?_))
  go_ret
  exact Keep.intro ⟨rfl, hZ⟩

set_option maxRecDepth 100000 in
set_option maxHeartbeats 2000000 in
theorem once_num_yes (va vb : Value) (la lb : List Nat) (W : World) (ha : Byt W va la) (hb : Byt W vb lb) (hla : ∀ x ∈ la, x < 256) (hlb : ∀ x ∈ lb, x < 256) (hna : la.length ≤ 140737488355328) (hnb : lb.length ≤ 140737488355328) (hA : (rd la).2 ≠ 0) (hB : (rd lb).2 ≠ 0) (hN : (rd la).1 ≠ (rd lb).1) (hT : RtOk la) :
    Calls Try.prog 8 #[va, vb] W fun e w' => e = .returned (.bool true) ∧ Ext W w' := by
  refine calls_keep ?_
  have hba : ([] : List Nat).length + la.length ≤ 140737488355328 := by simpa using hna
  have hbb : ([] : List Nat).length + lb.length ≤ 140737488355328 := by simpa using hnb
  have Ea := hide_ (show rdErr la = 0 from by rw [rdErr, if_neg hA])
  obtain ⟨hwa, hna64⟩ := rd_whole hla hA
  have Hcat := hide_ (show strN (numL (rd la).1) ++ strN (rdRest la) = strN la from by rw [← strN_append, hwa])
  have hcs : (strN (numL (rd la).1)).size + (strN (rdRest la)).size ≤ 9223372036854775807 := by
    rw [strN_size, strN_size, ← List.length_append, hwa]; omega
  have Eb := hide_ (show rdErr lb = 0 from by rw [rdErr, if_neg hB])
  obtain ⟨hwb, -⟩ := rd_whole hlb hB
  have Hne : Hid (¬ (strN la).toList = (strN lb).toList) := fun hs => by
    have hll := strN_inj hla hlb (bytes_ext hs)
    exact hN (by rw [hll])
  have HN : Hid (¬ ((rd la).1 : Int) = ((rd lb).1 : Int)) := fun e => hN (by omega)
  obtain ⟨hx0, hx1, hx2, hx3⟩ := rt_whole hla hT
  have T1 := hide_ hx0
  have T2 := hide_ (show rtErr la = 0 from by rw [rtErr, if_pos hT])
  have T3 : strN (txL (rtL la)) ++ strN (rtRest la) = strN la := by rw [← strN_append, hx1]
  have hT3 : (strN (txL (rtL la))).size + (strN (rtRest la)).size ≤ 9223372036854775807 := by
    rw [strN_size, strN_size, ← List.length_append, hx1]; omega
  clear hx0 hx1 hx2 hx3
  clear hT hA hwa hB hwb hN
  go_enter Try.func8, Try.ntmps8
  go_upto_region 5 with (first
    | (go_at_call 12; refine (alive_any _).mono ?_; rintro e w1 ⟨rfl, hx1⟩; have H1 := ha.ext hx1; have H2 := hb.ext hx1)
    | (at_builtin; refine appb (.tmp 19) (.tmp 20) rfl rfl rfl rfl own_empty (H1.ext ((Ext.refl _).alloc _)) hba (by simp) ?_; intro v2 w2 ho2 hb2 hg2; have H3 := ho2.byt; have hx2 := ext_alloc_below hb2; clear ho2 hb2 hg2)
    | (go_at_call 11; refine (ReadNum_any v2 la _ hla H3 (by omega)).mono ?_; rintro e w3 ⟨v3, rfl, ho3, hx3⟩; have H4 := ho3.byt; have H5 := (H1.ext hx2).ext hx3; have H6 := (H2.ext hx2).ext hx3; clear ho3 H1 H2 H3)
    | (at_builtin; refine appb (.tmp 27) (.tmp 28) rfl rfl rfl rfl own_empty (H6.ext ((Ext.refl _).alloc _)) hbb (by simp) ?_; intro v4 w4 ho4 hb4 hg4; have H7 := ho4.byt; have hx4 := ext_alloc_below hb4; clear ho4 hb4 hg4)
    | (go_at_call 11; refine (ReadNum_any v4 lb _ hlb H7 (by omega)).mono ?_; rintro e w5 ⟨v5, rfl, ho5, hx5⟩; have K3 := ho5.byt.ext (Ext.refl _).drew; have K2 := ((H4.ext hx4).ext hx5).ext (Ext.refl _).drew; have K0 := ((H5.ext hx4).ext hx5).ext (Ext.refl _).drew; have K1 := ((H6.ext hx4).ext hx5).ext (Ext.refl _).drew; have hX := ((((hx1.trans hx2).trans hx3).trans hx4).trans hx5).drew; clear ho5 H4 H5 H6 H7))
  rw [Ea.out, Eb.out]
  refine wp_region_linR (by kernel_rfl) (by kernel_rfl) ?_
  refine LinR.step (s := (.val (.int .i64 0))) [(7, none)] rfl (by kernel_rfl) (op_out 7 (.int .i64 0) rfl (.inl rfl) rfl) ?_
  refine LinR.step (s := (.val (.bool true))) [(34, some 0)] rfl (by kernel_rfl) (op_runs rfl fun σ w' hx hg => ⟨(.bool true), by have h34 : σ.tmps.getD 34 undef = .int .i64 0 := hg.1; unfold Runs execOp; simp [Act.eval, h34, go_sem], rfl⟩) ?_
  refine LinR.step (s := (.val (.bool true))) [(35, some 0)] rfl (by kernel_rfl) (op_copy 35 0 (.val (.bool true)) rfl (.inl rfl) rfl) ?_
  refine LinR.step (s := (.val (.int .u64 ((rd la).1 : Nat)))) [(5, none), (36, some 0)] rfl (by kernel_rfl) (op_yes (reads := [(5, none)]) 2 36 0 true rfl rfl rfl (op_out 5 (.int .u64 ((rd la).1 : Nat)) rfl (.inl rfl) rfl)) ?_
  refine LinR.step (s := (.sl (u8s (numL (rd la).1)))) [(37, some 0), (36, some 1)] rfl (by kernel_rfl) (op_yes (reads := [(37, some 0)]) 2 36 1 true rfl rfl rfl (op_calls 14 #[(.tmp 37)] #[22] (fun σ => #[.int .u64 ((rd la).1 : Nat)]) rfl rfl (fun _ _ => rfl) fun σ w' hx hg => ⟨by have h37 : σ.tmps.getD 37 undef = .int .u64 ((rd la).1 : Nat) := hg.1; simp only [List.map_toArray, List.map_cons, List.map_nil, Act.eval]; rw [h37], numR (rd la).1 w' hna64⟩)) ?_
  refine LinR.step (s := (.val (.string (strN (numL (rd la).1))))) [(38, some 0), (36, some 2)] rfl (by kernel_rfl) (op_yes (reads := [(38, some 0)]) 2 36 2 true rfl rfl rfl (op_runs rfl fun σ w' hx hg => ⟨_, runs_str (ρ := σ.eval) (w := w') (.tmp 38) rfl (rfl) hg.1, rfl⟩)) ?_
  refine LinR.step (s := (.val (v3))) [(6, none), (36, some 3)] rfl (by kernel_rfl) (op_yes (reads := [(6, none)]) 2 36 3 true rfl rfl rfl (op_out 6 (v3) rfl (.inl rfl) rfl)) ?_
  refine LinR.step (s := (.val (.string (strN (rdRest la))))) [(40, some 0), (36, some 4)] rfl (by kernel_rfl) (op_yes (reads := [(40, some 0)]) 2 36 4 true rfl rfl rfl (op_runs rfl fun σ w' hx hg => ⟨_, runs_str (ρ := σ.eval) (w := w') (.tmp 40) rfl (hg.1) (K2.ext hx), rfl⟩)) ?_
  refine LinR.step (s := (.val (.string (strN la)))) [(39, some 2), (41, some 0), (36, some 5)] rfl (by kernel_rfl) (op_yes (reads := [(39, some 2), (41, some 0)]) 2 36 5 true rfl rfl rfl (op_runs rfl fun σ w' hx hg => ⟨_, runs_cat (ρ := σ.eval) (w := w') (.tmp 39) (.tmp 41) rfl hg.1 hg.2.1 Hcat.out hcs, rfl⟩)) ?_
  refine LinR.step (s := (.val (va))) [(0, none), (36, some 6)] rfl (by kernel_rfl) (op_yes (reads := [(0, none)]) 2 36 6 true rfl rfl rfl (op_out 0 (va) rfl (.inl rfl) rfl)) ?_
  refine LinR.step (s := (.val (.string (strN la)))) [(43, some 0), (36, some 7)] rfl (by kernel_rfl) (op_yes (reads := [(43, some 0)]) 2 36 7 true rfl rfl rfl (op_runs rfl fun σ w' hx hg => ⟨_, runs_str (ρ := σ.eval) (w := w') (.tmp 43) rfl (hg.1) (K0.ext hx), rfl⟩)) ?_
  refine LinR.step (s := (.val (.bool false))) [(42, some 2), (44, some 0), (36, some 8)] rfl (by kernel_rfl) (op_yes (reads := [(42, some 2), (44, some 0)]) 2 36 8 true rfl rfl rfl (op_runs rfl fun σ w' hx hg => ⟨(.bool false), by have h42 : σ.tmps.getD 42 undef = .string (strN la) := hg.1; have h44 : σ.tmps.getD 44 undef = .string (strN la) := hg.2.1; unfold Runs execOp; simp [Act.eval, h42, h44, go_sem], rfl⟩)) ?_
  refine LinR.step (s := (.val (.bool false))) [(36, some 9), (45, some 0)] rfl (by kernel_rfl) (op_runs rfl fun σ w' hx hg => ⟨(.bool false), runs_pick_t (ρ := σ.eval) (w := w') (.tmp 36) (.tmp 45) (.const (.bool false)) rfl hg.1 hg.2.1, rfl⟩) ?_
  refine LinR.step (s := (.val (.bool false))) [(46, some 0)] rfl (by kernel_rfl) (op_copy 46 0 (.val (.bool false)) rfl (.inl rfl) rfl) ?_
  refine LinR.step (s := (.val (.int .i64 0))) [(7, none), (47, some 0)] rfl (by kernel_rfl) (op_yes (reads := [(7, none)]) 13 47 0 false rfl rfl rfl (op_out 7 (.int .i64 0) rfl (.inl rfl) rfl)) ?_
  refine LinR.step (s := (.val (.bool true))) [(48, some 0), (47, some 1)] rfl (by kernel_rfl) (op_yes (reads := [(48, some 0)]) 13 47 1 false rfl rfl rfl (op_runs rfl fun σ w' hx hg => ⟨(.bool true), by have h48 : σ.tmps.getD 48 undef = .int .i64 0 := hg.1; unfold Runs execOp; simp [Act.eval, h48, go_sem], rfl⟩)) ?_
  refine LinR.step (s := (.val (.bool true))) [(49, some 0), (47, some 2)] rfl (by kernel_rfl) (op_yes (reads := [(49, some 0)]) 13 47 2 false rfl rfl rfl (op_copy 49 0 (.val (.bool true)) rfl (.inl rfl) rfl)) ?_
  refine LinR.step (s := (.val (.int .i64 0))) [(10, none), (50, some 0)] rfl (by kernel_rfl) (op_yes (reads := [(10, none)]) 16 50 0 true rfl rfl rfl (op_out 10 (.int .i64 0) rfl (.inl rfl) rfl)) ?_
  refine LinR.step (s := (.val (.bool true))) [(51, some 0), (50, some 1)] rfl (by kernel_rfl) (op_yes (reads := [(51, some 0)]) 16 50 1 true rfl rfl rfl (op_runs rfl fun σ w' hx hg => ⟨(.bool true), by have h51 : σ.tmps.getD 51 undef = .int .i64 0 := hg.1; unfold Runs execOp; simp [Act.eval, h51, go_sem], rfl⟩)) ?_
  refine LinR.step (s := (.val (.bool true))) [(50, some 2), (52, some 0), (47, some 5)] rfl (by kernel_rfl) (op_yes (reads := [(50, some 2), (52, some 0)]) 13 47 5 false rfl rfl rfl (op_runs rfl fun σ w' hx hg => ⟨(.bool true), runs_pick_t (ρ := σ.eval) (w := w') (.tmp 50) (.tmp 52) (.const (.bool false)) rfl hg.1 hg.2.1, rfl⟩)) ?_
  refine LinR.step (s := (.val (.bool true))) [(53, some 0), (47, some 6)] rfl (by kernel_rfl) (op_yes (reads := [(53, some 0)]) 13 47 6 false rfl rfl rfl (op_copy 53 0 (.val (.bool true)) rfl (.inl rfl) rfl)) ?_
  refine LinR.step (s := (.val (.int .u64 ((rd la).1 : Nat)))) [(5, none), (54, some 0)] rfl (by kernel_rfl) (op_yes (reads := [(5, none)]) 20 54 0 true rfl rfl rfl (op_out 5 (.int .u64 ((rd la).1 : Nat)) rfl (.inl rfl) rfl)) ?_
  refine LinR.step (s := (.val (.int .u64 ((rd lb).1 : Nat)))) [(8, none), (54, some 1)] rfl (by kernel_rfl) (op_yes (reads := [(8, none)]) 20 54 1 true rfl rfl rfl (op_out 8 (.int .u64 ((rd lb).1 : Nat)) rfl (.inl rfl) rfl)) ?_
  refine LinR.step (s := (.val (.bool false))) [(55, some 1), (56, some 0), (54, some 2)] rfl (by kernel_rfl) (op_yes (reads := [(55, some 1), (56, some 0)]) 20 54 2 true rfl rfl rfl (op_runs rfl fun σ w' hx hg => ⟨(.bool false), by have h55 : σ.tmps.getD 55 undef = .int .u64 ((rd la).1 : Nat) := hg.1; have h56 : σ.tmps.getD 56 undef = .int .u64 ((rd lb).1 : Nat) := hg.2.1; unfold Runs execOp; simp [Act.eval, h55, h56, go_sem, HN.out], rfl⟩)) ?_
  refine LinR.step (s := (.val (.bool false))) [(57, some 0), (54, some 3)] rfl (by kernel_rfl) (op_yes (reads := [(57, some 0)]) 20 54 3 true rfl rfl rfl (op_copy 57 0 (.val (.bool false)) rfl (.inl rfl) rfl)) ?_
  refine LinR.step (s := .val undef) [(6, none), (58, some 0)] rfl (by kernel_rfl) (op_no (reads := [(6, none)]) 24 58 0 true rfl rfl rfl) ?_
  refine LinR.step (s := .val undef) [(59, some 0), (58, some 1)] rfl (by kernel_rfl) (op_no (reads := [(59, some 0)]) 24 58 1 true rfl rfl rfl) ?_
  refine LinR.step (s := .val undef) [(9, none), (58, some 2)] rfl (by kernel_rfl) (op_no (reads := [(9, none)]) 24 58 2 true rfl rfl rfl) ?_
  refine LinR.step (s := .val undef) [(61, some 0), (58, some 3)] rfl (by kernel_rfl) (op_no (reads := [(61, some 0)]) 24 58 3 true rfl rfl rfl) ?_
  refine LinR.step (s := .val undef) [(60, some 2), (62, some 0), (58, some 4)] rfl (by kernel_rfl) (op_no (reads := [(60, some 2), (62, some 0)]) 24 58 4 true rfl rfl rfl) ?_
  refine LinR.step (s := (.val (.bool false))) [(58, some 5), (63, some 0), (54, some 9)] rfl (by kernel_rfl) (op_yes (reads := [(58, some 5), (63, some 0)]) 20 54 9 true rfl rfl rfl (op_runs rfl fun σ w' hx hg => ⟨(.bool false), runs_pick_f (ρ := σ.eval) (w := w') (.tmp 58) (.tmp 63) (.const (.bool false)) rfl hg.1 rfl, rfl⟩)) ?_
  refine LinR.step (s := (.val (va))) [(0, none), (54, some 10)] rfl (by kernel_rfl) (op_yes (reads := [(0, none)]) 20 54 10 true rfl rfl rfl (op_out 0 (va) rfl (.inl rfl) rfl)) ?_
  refine LinR.step (s := (.val (.string (strN la)))) [(65, some 0), (54, some 11)] rfl (by kernel_rfl) (op_yes (reads := [(65, some 0)]) 20 54 11 true rfl rfl rfl (op_runs rfl fun σ w' hx hg => ⟨_, runs_str (ρ := σ.eval) (w := w') (.tmp 65) rfl (hg.1) (K0.ext hx), rfl⟩)) ?_
  refine LinR.step (s := (.val (vb))) [(1, none), (54, some 12)] rfl (by kernel_rfl) (op_yes (reads := [(1, none)]) 20 54 12 true rfl rfl rfl (op_out 1 (vb) rfl (.inl rfl) rfl)) ?_
  refine LinR.step (s := (.val (.string (strN lb)))) [(67, some 0), (54, some 13)] rfl (by kernel_rfl) (op_yes (reads := [(67, some 0)]) 20 54 13 true rfl rfl rfl (op_runs rfl fun σ w' hx hg => ⟨_, runs_str (ρ := σ.eval) (w := w') (.tmp 67) rfl (hg.1) (K1.ext hx), rfl⟩)) ?_
  refine LinR.step (s := (.val (.bool false))) [(66, some 2), (68, some 0), (54, some 14)] rfl (by kernel_rfl) (op_yes (reads := [(66, some 2), (68, some 0)]) 20 54 14 true rfl rfl rfl (op_runs rfl fun σ w' hx hg => ⟨(.bool false), by have h66 : σ.tmps.getD 66 undef = .string (strN la) := hg.1; have h68 : σ.tmps.getD 68 undef = .string (strN lb) := hg.2.1; unfold Runs execOp; simp [Act.eval, h66, h68, go_sem, Hne.out], rfl⟩)) ?_
  refine LinR.step (s := (.val (.bool false))) [(64, some 5), (69, some 0), (54, some 15)] rfl (by kernel_rfl) (op_yes (reads := [(64, some 5), (69, some 0)]) 20 54 15 true rfl rfl rfl (op_runs rfl fun σ w' hx hg => ⟨(.bool false), by have h64 : σ.tmps.getD 64 undef = .bool false := hg.1; have h69 : σ.tmps.getD 69 undef = .bool false := hg.2.1; unfold Runs execOp; simp [Act.eval, h64, h69, go_sem], rfl⟩)) ?_
  refine LinR.step (s := (.val (.bool false))) [(54, some 16), (70, some 0), (47, some 23)] rfl (by kernel_rfl) (op_yes (reads := [(54, some 16), (70, some 0)]) 13 47 23 false rfl rfl rfl (op_runs rfl fun σ w' hx hg => ⟨(.bool false), runs_pick_t (ρ := σ.eval) (w := w') (.tmp 54) (.tmp 70) (.const (.bool false)) rfl hg.1 hg.2.1, rfl⟩)) ?_
  refine LinR.step (s := (.val (.bool false))) [(47, some 24), (71, some 0)] rfl (by kernel_rfl) (op_runs rfl fun σ w' hx hg => ⟨(.bool false), runs_pick_f (ρ := σ.eval) (w := w') (.tmp 47) (.const (.bool true)) (.tmp 71) rfl hg.1 hg.2.1, rfl⟩) ?_
  intro wN hxN
  simp only [Fin', Sp.ptr, List.reverse_cons, List.reverse_nil, List.nil_append, List.cons_append]
  intro q38 hq38
  simp only [Act.put, List.setIfInBounds_toArray, List.set_cons_zero, List.set_cons_succ]
  have L0 := K0.ext hxN
  have hY := hX.trans hxN
  clear K0 K1 K2 K3 hX hxN
  go_wp2_with (first
    | (at_builtin; refine appb (.tmp 74) (.tmp 75) rfl rfl rfl rfl own_empty (L0.ext ((Ext.refl _).alloc _)) hba (by simp) ?_; intro v6 w6 ho6 hb6 hg6; have L1 := ho6.byt; have hx6 := ext_alloc_below hb6; clear ho6 hb6 hg6)
    | (go_at_call 23; refine (ReadText_any v6 la _ hla L1 (by omega)).mono ?_; rintro e w7 ⟨v7, v8, rfl, L2, L3, hx7⟩; have L4 := (L0.ext hx6).ext hx7; have hZ := (hY.trans hx6).trans hx7; clear L0 L1 hY; rw [T2.out])
    | (go_at_call 21; refine (Text_any v7 _ _ L2).mono ?_; rintro e w8 ⟨v9, rfl, ho8, hx8⟩; have L5 := ho8.byt; have L6 := L3.ext hx8; have L7 := L4.ext hx8; have hZ' := hZ.trans hx8; clear ho8 L2 L3 L4 hZ; rw [T1.out])
    | (refine w_yes _ _ _ rfl rfl rfl ?_; refine w_cat _ _ rfl rfl rfl rfl T3 hT3 ?_)
    | (refine w_str _ rfl rfl rfl (by assumption) ?_)
    | (refine w_yes _ _ _ rfl rfl rfl ?_; refine w_str _ rfl rfl rfl (by assumption) ?_)
    | (refine b_len _ rfl rfl rfl (by assumption) ?_))
  go_ret
  exact Keep.intro ⟨rfl, hZ'⟩

set_option maxRecDepth 100000 in
set_option maxHeartbeats 2000000 in
theorem once_num_no (va vb : Value) (la lb : List Nat) (W : World) (ha : Byt W va la) (hb : Byt W vb lb) (hla : ∀ x ∈ la, x < 256) (hlb : ∀ x ∈ lb, x < 256) (hna : la.length ≤ 140737488355328) (hnb : lb.length ≤ 140737488355328) (hA : (rd la).2 ≠ 0) (hB : (rd lb).2 ≠ 0) (hN : (rd la).1 ≠ (rd lb).1) (hT : ¬ RtOk la) :
    Calls Try.prog 8 #[va, vb] W fun e w' => e = .returned (.bool true) ∧ Ext W w' := by
  refine calls_keep ?_
  have hba : ([] : List Nat).length + la.length ≤ 140737488355328 := by simpa using hna
  have hbb : ([] : List Nat).length + lb.length ≤ 140737488355328 := by simpa using hnb
  have Ea := hide_ (show rdErr la = 0 from by rw [rdErr, if_neg hA])
  obtain ⟨hwa, hna64⟩ := rd_whole hla hA
  have Hcat := hide_ (show strN (numL (rd la).1) ++ strN (rdRest la) = strN la from by rw [← strN_append, hwa])
  have hcs : (strN (numL (rd la).1)).size + (strN (rdRest la)).size ≤ 9223372036854775807 := by
    rw [strN_size, strN_size, ← List.length_append, hwa]; omega
  have Eb := hide_ (show rdErr lb = 0 from by rw [rdErr, if_neg hB])
  obtain ⟨hwb, -⟩ := rd_whole hlb hB
  have Hne : Hid (¬ (strN la).toList = (strN lb).toList) := fun hs => by
    have hll := strN_inj hla hlb (bytes_ext hs)
    exact hN (by rw [hll])
  have HN : Hid (¬ ((rd la).1 : Int) = ((rd lb).1 : Int)) := fun e => hN (by omega)
  have T1 := hide_ (show rtL la = [] from by rw [rtL, if_neg hT])
  have T3 := hide_ (show rtRest la = [] from by rw [rtRest, if_neg hT])
  have T2 := hide_ (show rtErr la = 11 from by rw [rtErr, if_neg hT])
  clear hT hA hwa hB hwb hN
  go_enter Try.func8, Try.ntmps8
  go_upto_region 5 with (first
    | (go_at_call 12; refine (alive_any _).mono ?_; rintro e w1 ⟨rfl, hx1⟩; have H1 := ha.ext hx1; have H2 := hb.ext hx1)
    | (at_builtin; refine appb (.tmp 19) (.tmp 20) rfl rfl rfl rfl own_empty (H1.ext ((Ext.refl _).alloc _)) hba (by simp) ?_; intro v2 w2 ho2 hb2 hg2; have H3 := ho2.byt; have hx2 := ext_alloc_below hb2; clear ho2 hb2 hg2)
    | (go_at_call 11; refine (ReadNum_any v2 la _ hla H3 (by omega)).mono ?_; rintro e w3 ⟨v3, rfl, ho3, hx3⟩; have H4 := ho3.byt; have H5 := (H1.ext hx2).ext hx3; have H6 := (H2.ext hx2).ext hx3; clear ho3 H1 H2 H3)
    | (at_builtin; refine appb (.tmp 27) (.tmp 28) rfl rfl rfl rfl own_empty (H6.ext ((Ext.refl _).alloc _)) hbb (by simp) ?_; intro v4 w4 ho4 hb4 hg4; have H7 := ho4.byt; have hx4 := ext_alloc_below hb4; clear ho4 hb4 hg4)
    | (go_at_call 11; refine (ReadNum_any v4 lb _ hlb H7 (by omega)).mono ?_; rintro e w5 ⟨v5, rfl, ho5, hx5⟩; have K3 := ho5.byt.ext (Ext.refl _).drew; have K2 := ((H4.ext hx4).ext hx5).ext (Ext.refl _).drew; have K0 := ((H5.ext hx4).ext hx5).ext (Ext.refl _).drew; have K1 := ((H6.ext hx4).ext hx5).ext (Ext.refl _).drew; have hX := ((((hx1.trans hx2).trans hx3).trans hx4).trans hx5).drew; clear ho5 H4 H5 H6 H7))
  rw [Ea.out, Eb.out]
  refine wp_region_linR (by kernel_rfl) (by kernel_rfl) ?_
  refine LinR.step (s := (.val (.int .i64 0))) [(7, none)] rfl (by kernel_rfl) (op_out 7 (.int .i64 0) rfl (.inl rfl) rfl) ?_
  refine LinR.step (s := (.val (.bool true))) [(34, some 0)] rfl (by kernel_rfl) (op_runs rfl fun σ w' hx hg => ⟨(.bool true), by have h34 : σ.tmps.getD 34 undef = .int .i64 0 := hg.1; unfold Runs execOp; simp [Act.eval, h34, go_sem], rfl⟩) ?_
  refine LinR.step (s := (.val (.bool true))) [(35, some 0)] rfl (by kernel_rfl) (op_copy 35 0 (.val (.bool true)) rfl (.inl rfl) rfl) ?_
  refine LinR.step (s := (.val (.int .u64 ((rd la).1 : Nat)))) [(5, none), (36, some 0)] rfl (by kernel_rfl) (op_yes (reads := [(5, none)]) 2 36 0 true rfl rfl rfl (op_out 5 (.int .u64 ((rd la).1 : Nat)) rfl (.inl rfl) rfl)) ?_
  refine LinR.step (s := (.sl (u8s (numL (rd la).1)))) [(37, some 0), (36, some 1)] rfl (by kernel_rfl) (op_yes (reads := [(37, some 0)]) 2 36 1 true rfl rfl rfl (op_calls 14 #[(.tmp 37)] #[22] (fun σ => #[.int .u64 ((rd la).1 : Nat)]) rfl rfl (fun _ _ => rfl) fun σ w' hx hg => ⟨by have h37 : σ.tmps.getD 37 undef = .int .u64 ((rd la).1 : Nat) := hg.1; simp only [List.map_toArray, List.map_cons, List.map_nil, Act.eval]; rw [h37], numR (rd la).1 w' hna64⟩)) ?_
  refine LinR.step (s := (.val (.string (strN (numL (rd la).1))))) [(38, some 0), (36, some 2)] rfl (by kernel_rfl) (op_yes (reads := [(38, some 0)]) 2 36 2 true rfl rfl rfl (op_runs rfl fun σ w' hx hg => ⟨_, runs_str (ρ := σ.eval) (w := w') (.tmp 38) rfl (rfl) hg.1, rfl⟩)) ?_
  refine LinR.step (s := (.val (v3))) [(6, none), (36, some 3)] rfl (by kernel_rfl) (op_yes (reads := [(6, none)]) 2 36 3 true rfl rfl rfl (op_out 6 (v3) rfl (.inl rfl) rfl)) ?_
  refine LinR.step (s := (.val (.string (strN (rdRest la))))) [(40, some 0), (36, some 4)] rfl (by kernel_rfl) (op_yes (reads := [(40, some 0)]) 2 36 4 true rfl rfl rfl (op_runs rfl fun σ w' hx hg => ⟨_, runs_str (ρ := σ.eval) (w := w') (.tmp 40) rfl (hg.1) (K2.ext hx), rfl⟩)) ?_
  refine LinR.step (s := (.val (.string (strN la)))) [(39, some 2), (41, some 0), (36, some 5)] rfl (by kernel_rfl) (op_yes (reads := [(39, some 2), (41, some 0)]) 2 36 5 true rfl rfl rfl (op_runs rfl fun σ w' hx hg => ⟨_, runs_cat (ρ := σ.eval) (w := w') (.tmp 39) (.tmp 41) rfl hg.1 hg.2.1 Hcat.out hcs, rfl⟩)) ?_
  refine LinR.step (s := (.val (va))) [(0, none), (36, some 6)] rfl (by kernel_rfl) (op_yes (reads := [(0, none)]) 2 36 6 true rfl rfl rfl (op_out 0 (va) rfl (.inl rfl) rfl)) ?_
  refine LinR.step (s := (.val (.string (strN la)))) [(43, some 0), (36, some 7)] rfl (by kernel_rfl) (op_yes (reads := [(43, some 0)]) 2 36 7 true rfl rfl rfl (op_runs rfl fun σ w' hx hg => ⟨_, runs_str (ρ := σ.eval) (w := w') (.tmp 43) rfl (hg.1) (K0.ext hx), rfl⟩)) ?_
  refine LinR.step (s := (.val (.bool false))) [(42, some 2), (44, some 0), (36, some 8)] rfl (by kernel_rfl) (op_yes (reads := [(42, some 2), (44, some 0)]) 2 36 8 true rfl rfl rfl (op_runs rfl fun σ w' hx hg => ⟨(.bool false), by have h42 : σ.tmps.getD 42 undef = .string (strN la) := hg.1; have h44 : σ.tmps.getD 44 undef = .string (strN la) := hg.2.1; unfold Runs execOp; simp [Act.eval, h42, h44, go_sem], rfl⟩)) ?_
  refine LinR.step (s := (.val (.bool false))) [(36, some 9), (45, some 0)] rfl (by kernel_rfl) (op_runs rfl fun σ w' hx hg => ⟨(.bool false), runs_pick_t (ρ := σ.eval) (w := w') (.tmp 36) (.tmp 45) (.const (.bool false)) rfl hg.1 hg.2.1, rfl⟩) ?_
  refine LinR.step (s := (.val (.bool false))) [(46, some 0)] rfl (by kernel_rfl) (op_copy 46 0 (.val (.bool false)) rfl (.inl rfl) rfl) ?_
  refine LinR.step (s := (.val (.int .i64 0))) [(7, none), (47, some 0)] rfl (by kernel_rfl) (op_yes (reads := [(7, none)]) 13 47 0 false rfl rfl rfl (op_out 7 (.int .i64 0) rfl (.inl rfl) rfl)) ?_
  refine LinR.step (s := (.val (.bool true))) [(48, some 0), (47, some 1)] rfl (by kernel_rfl) (op_yes (reads := [(48, some 0)]) 13 47 1 false rfl rfl rfl (op_runs rfl fun σ w' hx hg => ⟨(.bool true), by have h48 : σ.tmps.getD 48 undef = .int .i64 0 := hg.1; unfold Runs execOp; simp [Act.eval, h48, go_sem], rfl⟩)) ?_
  refine LinR.step (s := (.val (.bool true))) [(49, some 0), (47, some 2)] rfl (by kernel_rfl) (op_yes (reads := [(49, some 0)]) 13 47 2 false rfl rfl rfl (op_copy 49 0 (.val (.bool true)) rfl (.inl rfl) rfl)) ?_
  refine LinR.step (s := (.val (.int .i64 0))) [(10, none), (50, some 0)] rfl (by kernel_rfl) (op_yes (reads := [(10, none)]) 16 50 0 true rfl rfl rfl (op_out 10 (.int .i64 0) rfl (.inl rfl) rfl)) ?_
  refine LinR.step (s := (.val (.bool true))) [(51, some 0), (50, some 1)] rfl (by kernel_rfl) (op_yes (reads := [(51, some 0)]) 16 50 1 true rfl rfl rfl (op_runs rfl fun σ w' hx hg => ⟨(.bool true), by have h51 : σ.tmps.getD 51 undef = .int .i64 0 := hg.1; unfold Runs execOp; simp [Act.eval, h51, go_sem], rfl⟩)) ?_
  refine LinR.step (s := (.val (.bool true))) [(50, some 2), (52, some 0), (47, some 5)] rfl (by kernel_rfl) (op_yes (reads := [(50, some 2), (52, some 0)]) 13 47 5 false rfl rfl rfl (op_runs rfl fun σ w' hx hg => ⟨(.bool true), runs_pick_t (ρ := σ.eval) (w := w') (.tmp 50) (.tmp 52) (.const (.bool false)) rfl hg.1 hg.2.1, rfl⟩)) ?_
  refine LinR.step (s := (.val (.bool true))) [(53, some 0), (47, some 6)] rfl (by kernel_rfl) (op_yes (reads := [(53, some 0)]) 13 47 6 false rfl rfl rfl (op_copy 53 0 (.val (.bool true)) rfl (.inl rfl) rfl)) ?_
  refine LinR.step (s := (.val (.int .u64 ((rd la).1 : Nat)))) [(5, none), (54, some 0)] rfl (by kernel_rfl) (op_yes (reads := [(5, none)]) 20 54 0 true rfl rfl rfl (op_out 5 (.int .u64 ((rd la).1 : Nat)) rfl (.inl rfl) rfl)) ?_
  refine LinR.step (s := (.val (.int .u64 ((rd lb).1 : Nat)))) [(8, none), (54, some 1)] rfl (by kernel_rfl) (op_yes (reads := [(8, none)]) 20 54 1 true rfl rfl rfl (op_out 8 (.int .u64 ((rd lb).1 : Nat)) rfl (.inl rfl) rfl)) ?_
  refine LinR.step (s := (.val (.bool false))) [(55, some 1), (56, some 0), (54, some 2)] rfl (by kernel_rfl) (op_yes (reads := [(55, some 1), (56, some 0)]) 20 54 2 true rfl rfl rfl (op_runs rfl fun σ w' hx hg => ⟨(.bool false), by have h55 : σ.tmps.getD 55 undef = .int .u64 ((rd la).1 : Nat) := hg.1; have h56 : σ.tmps.getD 56 undef = .int .u64 ((rd lb).1 : Nat) := hg.2.1; unfold Runs execOp; simp [Act.eval, h55, h56, go_sem, HN.out], rfl⟩)) ?_
  refine LinR.step (s := (.val (.bool false))) [(57, some 0), (54, some 3)] rfl (by kernel_rfl) (op_yes (reads := [(57, some 0)]) 20 54 3 true rfl rfl rfl (op_copy 57 0 (.val (.bool false)) rfl (.inl rfl) rfl)) ?_
  refine LinR.step (s := .val undef) [(6, none), (58, some 0)] rfl (by kernel_rfl) (op_no (reads := [(6, none)]) 24 58 0 true rfl rfl rfl) ?_
  refine LinR.step (s := .val undef) [(59, some 0), (58, some 1)] rfl (by kernel_rfl) (op_no (reads := [(59, some 0)]) 24 58 1 true rfl rfl rfl) ?_
  refine LinR.step (s := .val undef) [(9, none), (58, some 2)] rfl (by kernel_rfl) (op_no (reads := [(9, none)]) 24 58 2 true rfl rfl rfl) ?_
  refine LinR.step (s := .val undef) [(61, some 0), (58, some 3)] rfl (by kernel_rfl) (op_no (reads := [(61, some 0)]) 24 58 3 true rfl rfl rfl) ?_
  refine LinR.step (s := .val undef) [(60, some 2), (62, some 0), (58, some 4)] rfl (by kernel_rfl) (op_no (reads := [(60, some 2), (62, some 0)]) 24 58 4 true rfl rfl rfl) ?_
  refine LinR.step (s := (.val (.bool false))) [(58, some 5), (63, some 0), (54, some 9)] rfl (by kernel_rfl) (op_yes (reads := [(58, some 5), (63, some 0)]) 20 54 9 true rfl rfl rfl (op_runs rfl fun σ w' hx hg => ⟨(.bool false), runs_pick_f (ρ := σ.eval) (w := w') (.tmp 58) (.tmp 63) (.const (.bool false)) rfl hg.1 rfl, rfl⟩)) ?_
  refine LinR.step (s := (.val (va))) [(0, none), (54, some 10)] rfl (by kernel_rfl) (op_yes (reads := [(0, none)]) 20 54 10 true rfl rfl rfl (op_out 0 (va) rfl (.inl rfl) rfl)) ?_
  refine LinR.step (s := (.val (.string (strN la)))) [(65, some 0), (54, some 11)] rfl (by kernel_rfl) (op_yes (reads := [(65, some 0)]) 20 54 11 true rfl rfl rfl (op_runs rfl fun σ w' hx hg => ⟨_, runs_str (ρ := σ.eval) (w := w') (.tmp 65) rfl (hg.1) (K0.ext hx), rfl⟩)) ?_
  refine LinR.step (s := (.val (vb))) [(1, none), (54, some 12)] rfl (by kernel_rfl) (op_yes (reads := [(1, none)]) 20 54 12 true rfl rfl rfl (op_out 1 (vb) rfl (.inl rfl) rfl)) ?_
  refine LinR.step (s := (.val (.string (strN lb)))) [(67, some 0), (54, some 13)] rfl (by kernel_rfl) (op_yes (reads := [(67, some 0)]) 20 54 13 true rfl rfl rfl (op_runs rfl fun σ w' hx hg => ⟨_, runs_str (ρ := σ.eval) (w := w') (.tmp 67) rfl (hg.1) (K1.ext hx), rfl⟩)) ?_
  refine LinR.step (s := (.val (.bool false))) [(66, some 2), (68, some 0), (54, some 14)] rfl (by kernel_rfl) (op_yes (reads := [(66, some 2), (68, some 0)]) 20 54 14 true rfl rfl rfl (op_runs rfl fun σ w' hx hg => ⟨(.bool false), by have h66 : σ.tmps.getD 66 undef = .string (strN la) := hg.1; have h68 : σ.tmps.getD 68 undef = .string (strN lb) := hg.2.1; unfold Runs execOp; simp [Act.eval, h66, h68, go_sem, Hne.out], rfl⟩)) ?_
  refine LinR.step (s := (.val (.bool false))) [(64, some 5), (69, some 0), (54, some 15)] rfl (by kernel_rfl) (op_yes (reads := [(64, some 5), (69, some 0)]) 20 54 15 true rfl rfl rfl (op_runs rfl fun σ w' hx hg => ⟨(.bool false), by have h64 : σ.tmps.getD 64 undef = .bool false := hg.1; have h69 : σ.tmps.getD 69 undef = .bool false := hg.2.1; unfold Runs execOp; simp [Act.eval, h64, h69, go_sem], rfl⟩)) ?_
  refine LinR.step (s := (.val (.bool false))) [(54, some 16), (70, some 0), (47, some 23)] rfl (by kernel_rfl) (op_yes (reads := [(54, some 16), (70, some 0)]) 13 47 23 false rfl rfl rfl (op_runs rfl fun σ w' hx hg => ⟨(.bool false), runs_pick_t (ρ := σ.eval) (w := w') (.tmp 54) (.tmp 70) (.const (.bool false)) rfl hg.1 hg.2.1, rfl⟩)) ?_
  refine LinR.step (s := (.val (.bool false))) [(47, some 24), (71, some 0)] rfl (by kernel_rfl) (op_runs rfl fun σ w' hx hg => ⟨(.bool false), runs_pick_f (ρ := σ.eval) (w := w') (.tmp 47) (.const (.bool true)) (.tmp 71) rfl hg.1 hg.2.1, rfl⟩) ?_
  intro wN hxN
  simp only [Fin', Sp.ptr, List.reverse_cons, List.reverse_nil, List.nil_append, List.cons_append]
  intro q38 hq38
  simp only [Act.put, List.setIfInBounds_toArray, List.set_cons_zero, List.set_cons_succ]
  have L0 := K0.ext hxN
  have hY := hX.trans hxN
  clear K0 K1 K2 K3 hX hxN
  go_wp2_with (first
    | (at_builtin; refine appb (.tmp 74) (.tmp 75) rfl rfl rfl rfl own_empty (L0.ext ((Ext.refl _).alloc _)) hba (by simp) ?_; intro v6 w6 ho6 hb6 hg6; have L1 := ho6.byt; have hx6 := ext_alloc_below hb6; clear ho6 hb6 hg6)
    | (go_at_call 23; refine (ReadText_any v6 la _ hla L1 (by omega)).mono ?_; rintro e w7 ⟨v7, v8, rfl, L2, L3, hx7⟩; have L4 := (L0.ext hx6).ext hx7; have hZ := (hY.trans hx6).trans hx7; clear L0 L1 hY; rw [T1.out] at L2; rw [T3.out] at L3; rw [T2.out])
    | (refine b_len _ rfl rfl rfl (by assumption) ?_))
  go_ret
  exact Keep.intro ⟨rfl, hZ⟩

theorem once_law (va vb : Value) (la lb : List Nat) (W : World) (ha : Byt W va la) (hb : Byt W vb lb) (hla : ∀ x ∈ la, x < 256) (hlb : ∀ x ∈ lb, x < 256) (hna : la.length ≤ 140737488355328) (hnb : lb.length ≤ 140737488355328) :
    Calls Try.prog 8 #[va, vb] W fun e w' => e = .returned (.bool true) ∧ Ext W w' := by
  by_cases hT : RtOk la <;> by_cases hA : (rd la).2 = 0
  all_goals first | exact once_no_yes va vb la lb W ha hb hla hlb hna hnb hA hT | exact once_no_no va vb la lb W ha hb hla hlb hna hnb hA hT | skip
  all_goals by_cases hB : (rd lb).2 = 0
  all_goals first | exact once_one_yes va vb la lb W ha hb hla hlb hna hnb hA hB hT | exact once_one_no va vb la lb W ha hb hla hlb hna hnb hA hB hT | skip
  all_goals by_cases hN : (rd la).1 = (rd lb).1
  all_goals first | exact once_num_yes va vb la lb W ha hb hla hlb hna hnb hA hB hN hT | exact once_num_no va vb la lb W ha hb hla hlb hna hnb hA hB hN hT | skip
  all_goals by_cases hR : rdRest la = rdRest lb
  all_goals first | exact once_same_yes va vb la lb W ha hb hla hlb hna hnb hA hB hN hR hT | exact once_same_no va vb la lb W ha hb hla hlb hna hnb hA hB hN hR hT | exact once_rest_yes va vb la lb W ha hb hla hlb hna hnb hA hB hN hR hT | exact once_rest_no va vb la lb W ha hb hla hlb hna hnb hA hB hN hR hT

set_option maxRecDepth 100000 in
theorem once_lifted (os : Os) (started : os.Started) (H : Type) (enc : TypeId × Value → H) :
    ReturnsInHanded {} Try.checked os 8 .any (Rows.wireOnceSpec.pre6 enc Try.prog Try.f8 Rows.wireOnceRow.domain false) (Rows.wireOnceSpec.post enc Try.prog Try.f8 false true false false) := by
  refine law_lifted (s := Rows.wireOnceSpec) (conds := Rows.wireOnceRow.domain) Try.func8 (by kernel_rfl) rfl (fun H ds h => by
      rw [show Try.f8.params.size = 2 from rfl] at h
      match ds, h with
      | [d0, d1], _ => rfl) rfl rfl (by decide +kernel) os started H enc
    (ChangeSpec.witness6 (enc := enc) (C := Try.checked) false ⟨#[], #[.slice none 0 0, .slice none 0 0], []⟩ 8 (by kernel_rfl) (by kernel_rfl) (by kernel_rfl) (by kernel_rfl)) ?_
  intro W base args ds p hval hA hsz _
  have hp : Try.f8.params.toList = [23, 23] := rfl
  rw [hp] at hA hsz
  obtain ⟨v0, v1, d0, d1, p0, p1, rfl, rfl, rfl, h0, h1⟩ := trodAll_two hA
  obtain ⟨l0, a0, b0, c0⟩ := arg_bytes hsz (j := 0) rfl rfl (hval 0 23 v0 rfl rfl) h0
  obtain ⟨l1, a1, b1, c1⟩ := arg_bytes hsz (j := 1) rfl rfl (hval 1 23 v1 rfl rfl) h1
  exact once_law v0 v1 l0 l1 W a0 a1 b0 b1 (by omega) (by omega)

theorem once_holds : Rows.WireOnceSaid :=
  OpenClaim.holds_of_wide 8 Try.f8 rfl rfl rfl rfl rfl rfl rfl ⟨rfl, rfl, rfl, rfl, rfl⟩ rfl rfl rfl rfl rfl (by kernel_rfl) Try.func8 (by kernel_rfl)
    (of_decide_eq_true (by kernel_rfl)) (by unfold Func.isWrapper; first | (rw [if_pos (by decide +kernel)]; kernel_rfl) | (rw [if_neg (by decide +kernel)]; exact ⟨rfl, rfl⟩))
    (fun os started H enc _ => once_lifted os started H enc)
#print axioms once_holds

end Go.Proofs.Ytjabedimhdhiiaa
