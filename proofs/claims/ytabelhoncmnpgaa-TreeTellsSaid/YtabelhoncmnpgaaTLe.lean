/- The statement TreeTells: heights, ways, steps back, and what two have in common. No condition. -/
import Derived.Test.YtabelhoncmnpgaaTLx
import Derived.Test.YtabelhoncmnpgaaArrArg
namespace Go.Proofs.Ytabelhoncmnpgaa
set_option maxRecDepth 100000
open Go.RowKit Go.ChangeShapes Go.WideShapes Go.ChangeAt

/-- An array of one-cell values, read. -/
theorem w_arrload {P : Program} {ops : Array Oper} {rest : List Oper} {o : Oper} {a : Act} {Q : Exit → Act → World → Prop} {w : World} {t e : TypeId} {n : Nat} (hu : P.underlying t = some (.array n e)) (hi : (P.info? t).map (·.size) = some n) (x : Operand) {g : Nat} {cs : List Value} (hgd : o.guard = none) (ho : o.op = .load t x) (hx : a.eval x = .pointer (some ⟨g, 0, none⟩)) (h : Fs w g cs) (hl : cs.length = n)
    (k : wpList P ops Q rest (a.put o.dst (.agg cs.toArray)) w) : wpList P ops Q (o :: rest) a w := by
  refine wpList_runs hgd ?_ k
  cases hq : P.info? t with
  | none => rw [hq] at hi; simp at hi
  | some i0 =>
    have hs : i0.size = n := by simpa [hq] using hi
    have hc := run_loadCells_list (P := P) w ⟨g, 0, none⟩ cs (fun j u hj => by rw [add_zero_off]; exact h.cell hj)
    rw [hl] at hc
    unfold Runs execOp
    simp [ho, hx, Instr.loadAt, Instr.sureAddr, loadVar, isAgg, run_underlying hu, sizeOf, typeInfo, hq, hs, hc]
theorem r_aidx {o : Oper} {ρ : Operand → Value} {w : World} (x : Operand) {g i : Nat} (ho : o.op = .indexAddr 51 x (.const (.int .i64 (i : Int)))) (hx : ρ x = .pointer (some ⟨g, 0, none⟩)) (hc : ρ (.const (.int .i64 (i : Int))) = .int .i64 (i : Int)) (hi : i < 2) : Runs Try.prog o ρ w (.pointer (some ⟨g, i, none⟩)) := by
  have hi0 : ∃ i0, Try.prog.info? 3 = some i0 ∧ i0.size = 1 := by
    have : (Try.prog.info? 3).map (·.size) = some 1 := by kernel_rfl
    cases hq : Try.prog.info? 3 with
    | none => rw [hq] at this; simp at this
    | some j => exact ⟨j, rfl, by simpa [hq] using this⟩
  obtain ⟨i0, h1, h2⟩ := hi0
  have := runs_aidx (P := Try.prog) (o := o) (ρ := ρ) (w := w) (n := 2) Try.underlying51 h1 h2 x _ ho hx i hc hi
  rw [add_zero_off] at this
  exact this

set_option maxRecDepth 100000 in
set_option maxHeartbeats 6400000 in
theorem treeTells_law (v0 : Value) (l : List BlkD) (x y steps : Int) (W : World) (hl00 : Recs 5 BlkL W v0 l) (hxI : I64 x) (hyI : I64 y) (hsI : I64 steps) : Calls Try.prog 5 #[v0, .agg #[.int .i64 x, .int .i64 y], .int .i64 steps] W fun e w' => e = .returned (.bool true) ∧ Ext W w' := by
  refine calls_keep ?_
  have hl0 := hide_ hl00
  have hmax := hl00.len_le
  unfold maxLen at hmax
  clear hl00
  by_cases hbig : 60 < l.length
  · have t1 : decide ((60 : Int) < (l.length : Int)) = true := decide_eq_true (by omega)
    go_enter Try.func5, Try.ntmps5
    go_wp2_with ((first
      | ((with_reducible refine at_box ?_); refine w_box _ [.int .i64 x, .int .i64 y] rfl rfl rfl rfl ?_; intro g4 w1 hg4 hX f4)
      | (go_at_call 11; refine (treeAlive_any _).mono ?_; rintro e w2 ⟨rfl, hx⟩; replace f4 := f4.ext hx; replace hX := hX.trans hx; clear hx)
      | ((with_reducible refine at_bi ?_); refine w_rlen Try.enBlk.elS _ rfl rfl rfl (hl0.out.ext BlkL.stays hX) ?_)
      | fail) <;> (try simp only [Act.put, List.setIfInBounds_toArray, List.set_cons_zero, List.set_cons_succ]))
    go_ret
    exact Keep.intro ⟨rfl, hX⟩
  have t1 : decide ((60 : Int) < (l.length : Int)) = false := decide_eq_false (by omega)
  have hlen := hide_ (show l.length ≤ 60 by omega)
  go_enter Try.func5, Try.ntmps5
  go_wp2_with ((first
    | ((with_reducible refine at_box ?_); refine w_box _ [.int .i64 x, .int .i64 y] rfl rfl rfl rfl ?_; intro g4 w1 hg4 hX f4)
    | (go_at_call 11; refine (treeAlive_any _).mono ?_; rintro e w2 ⟨rfl, hx⟩; replace f4 := f4.ext hx; replace hX := hX.trans hx; clear hx)
    | ((with_reducible refine at_bi ?_); refine w_rlen Try.enBlk.elS _ rfl rfl rfl (hl0.out.ext BlkL.stays hX) ?_)
    | (go_at_call 29; refine (grown_any (hl0.out.ext BlkL.stays hX) hlen.out).mono ?_; rintro e w5 ⟨p, G, vk, vw, rfl, hT, hK, hV, hx⟩; have hone8 := two_one hK.one' hV.one'; replace f4 := f4.ext hx; replace hX := hX.trans hx; clear hx hV)
    | ((with_reducible refine at_alloc ?_); refine w_alloc Try.stDoc rfl rfl ?_; intro g8 w6 hg8 hx2 f8)
    | ((with_reducible refine at_store ?_); refine w_astore Try.stDoc _ _ (us := [vk, vw]) rfl rfl rfl rfl rfl f8 rfl rfl hone8 ?_; intro w3 hm3 f9; replace hx2 := hm3.after hx2 (fun i hi => by subst hi; exact hg8); replace f8 : Fs w3 g8 [vk, vw] := f9; replace f4 := f4.ext hx2; replace hX := hX.trans hx2; replace hT := hT.ext hx2; replace hK := hK.ext BlkR.stays hx2; clear hx2 hm3 f9 hg8 hone8)
    | ((with_reducible refine at_load ?_); refine w_arrload Try.underlying51 (by kernel_rfl) _ rfl rfl rfl f4 rfl ?_)
    | fail) <;> (try simp only [Act.put, List.setIfInBounds_toArray, List.set_cons_zero, List.set_cons_succ]))
  have hgood := st_good l l.length
  obtain ⟨⟨K, V⟩, hS⟩ : ∃ t, st l l.length = t := ⟨_, rfl⟩
  rw [hS] at hT hK hgood
  replace hT : TrW G w3 p K V := hT
  replace hK : Recs 5 BlkR w3 vk K := hK
  have uq : TrS.Uq K := hgood.uq
  have hst : TrS.Stood K := hgood.stood
  have hWX := hide_ hX
  clear hX hgood hS
  obtain ⟨C, hC⟩ : ∃ C, TrS.common K x y = C := ⟨_, rfl⟩
  have hCm1 := hide_ (fun w' (h : Ext w3 w') => hC ▸ Common_any (hT.ext h) hxI hyI)
  have hCm2 := hide_ (fun w' (h : Ext w3 w') => hC ▸ refCommon_any (vw := vw) (a := x) (b := y) uq hst (hK.ext BlkR.stays h))
  clear hC
  have hX := Ext.refl w3
  go_loopw [24] (fun i wr => ∃ k : Nat, i = .int .i64 k ∧ k ≤ 2 ∧ Ext w3 wr ∧ Fs wr g4 [.int .i64 x, .int .i64 y] ∧ Fs wr g8 [vk, vw]) (fun i _ => 2 - (RowKit.intOf i).toNat)
  case atStart => exact ⟨0, rfl, by omega, hX, f4, f8⟩
  case round =>
    clear hX f4 f8
    obtain ⟨k, rfl, hk, hX, f4, f8⟩ := hrel
    by_cases hge : 2 ≤ k
    · obtain rfl : k = 2 := by omega
      clear hge hk
      go_wp2
      refine wp_region_phx (by kernel_rfl) ?_; intro wd hxd; have F8 := f8.ext hxd; have F4 := f4.ext hxd
      refine Ph.rest 0 14 (by kernel_rfl) ?_
      refine LinL.step (s := (.val (.pointer (some ⟨p, 0, none⟩)))) [(7, none)] rfl (by kernel_rfl) (op_out 7 (.pointer (some ⟨p, 0, none⟩)) rfl (.inl rfl) rfl) ?_
      refine LinL.step (s := (.val (.pointer (some ⟨g4, 0, none⟩)))) [(4, none)] rfl (by kernel_rfl) (op_runs rfl fun σ w' hx hg => ⟨_, r_aidx (ρ := σ.eval) (w := w') (.tmp 4) (i := 0) rfl hg.1 rfl (by omega), rfl⟩) ?_
      refine LinL.step (s := (.val (.int .i64 x))) [(70, some 0)] rfl (by kernel_rfl) (op_runs rfl fun σ w' hx hg => ⟨_, runs_fload (ρ := σ.eval) (w := w') (.tmp 70) rfl hg.1 (agg_of (by kernel_rfl) _) (F4.ext hx) rfl, rfl⟩) ?_
      refine LinL.step (s := (.val (.pointer (some ⟨g4, 1, none⟩)))) [(4, none)] rfl (by kernel_rfl) (op_runs rfl fun σ w' hx hg => ⟨_, r_aidx (ρ := σ.eval) (w := w') (.tmp 4) (i := 1) rfl hg.1 rfl (by omega), rfl⟩) ?_
      refine LinL.step (s := (.val (.int .i64 y))) [(72, some 0)] rfl (by kernel_rfl) (op_runs rfl fun σ w' hx hg => ⟨_, runs_fload (ρ := σ.eval) (w := w') (.tmp 72) rfl hg.1 (agg_of (by kernel_rfl) _) (F4.ext hx) rfl, rfl⟩) ?_
      refine LinL.step (s := (.val (.int .i64 C))) [(69, some 4), (71, some 2), (73, some 0)] rfl (by kernel_rfl) (op_calls 36 #[(.tmp 69), (.tmp 71), (.tmp 73)] #[22, 3, 3] (fun σ => #[.pointer (some ⟨p, 0, none⟩), .int .i64 x, .int .i64 y]) rfl rfl (fun _ _ => rfl) fun σ w' hx hg => ⟨by have h69 : σ.tmps.getD 69 undef = .pointer (some ⟨p, 0, none⟩) := hg.1; have h71 : σ.tmps.getD 71 undef = .int .i64 x := hg.2.1; have h73 : σ.tmps.getD 73 undef = .int .i64 y := hg.2.2.1; simp only [List.map_toArray, List.map_cons, List.map_nil, Act.eval, h69, h71, h73], retH (hCm1.out w' (hX.trans (hxd.trans hx)))⟩) ?_
      refine LinL.step (s := (.val (.agg #[vk, vw]))) [(8, none)] rfl (by kernel_rfl) (op_runs rfl fun σ w' hx hg => ⟨_, runs_aload (ρ := σ.eval) (w := w') Try.stDoc (.tmp 8) rfl hg.1 (F8.ext hx) rfl, rfl⟩) ?_
      refine LinL.step (s := (.val (.pointer (some ⟨g4, 0, none⟩)))) [(4, none)] rfl (by kernel_rfl) (op_runs rfl fun σ w' hx hg => ⟨_, r_aidx (ρ := σ.eval) (w := w') (.tmp 4) (i := 0) rfl hg.1 rfl (by omega), rfl⟩) ?_
      refine LinL.step (s := (.val (.int .i64 x))) [(76, some 0)] rfl (by kernel_rfl) (op_runs rfl fun σ w' hx hg => ⟨_, runs_fload (ρ := σ.eval) (w := w') (.tmp 76) rfl hg.1 (agg_of (by kernel_rfl) _) (F4.ext hx) rfl, rfl⟩) ?_
      refine LinL.step (s := (.val (.pointer (some ⟨g4, 1, none⟩)))) [(4, none)] rfl (by kernel_rfl) (op_runs rfl fun σ w' hx hg => ⟨_, r_aidx (ρ := σ.eval) (w := w') (.tmp 4) (i := 1) rfl hg.1 rfl (by omega), rfl⟩) ?_
      refine LinL.step (s := (.val (.int .i64 y))) [(78, some 0)] rfl (by kernel_rfl) (op_runs rfl fun σ w' hx hg => ⟨_, runs_fload (ρ := σ.eval) (w := w') (.tmp 78) rfl hg.1 (agg_of (by kernel_rfl) _) (F4.ext hx) rfl, rfl⟩) ?_
      refine LinL.step (s := (.val (.int .i64 C))) [(75, some 4), (77, some 2), (79, some 0)] rfl (by kernel_rfl) (op_calls 37 #[(.tmp 75), (.tmp 77), (.tmp 79)] #[31, 3, 3] (fun σ => #[.agg #[vk, vw], .int .i64 x, .int .i64 y]) rfl rfl (fun _ _ => rfl) fun σ w' hx hg => ⟨by have h75 : σ.tmps.getD 75 undef = .agg #[vk, vw] := hg.1; have h77 : σ.tmps.getD 77 undef = .int .i64 x := hg.2.1; have h79 : σ.tmps.getD 79 undef = .int .i64 y := hg.2.2.1; simp only [List.map_toArray, List.map_cons, List.map_nil, Act.eval, h75, h77, h79], retH (hCm2.out w' (hX.trans (hxd.trans hx)))⟩) ?_
      refine LinL.step (s := (.val (.bool true))) [(74, some 6), (80, some 0)] rfl (by kernel_rfl) (op_runs rfl fun σ w' hx hg => ⟨(.bool true), by have h74 : σ.tmps.getD 74 undef = .int .i64 C := hg.1; have h80 : σ.tmps.getD 80 undef = .int .i64 C := hg.2.1; unfold Runs execOp; simp [Act.eval, h74, h80, go_sem], rfl⟩) ?_
      refine LinL.step (s := (.val (.bool true))) [(81, some 0)] rfl (by kernel_rfl) (op_copy 81 0 (.val (.bool true)) rfl (.inr rfl) rfl) ?_
      intro wN hxN
      simp only [Fin', List.reverse_cons, List.reverse_nil, List.nil_append, List.cons_append, List.drop_zero, List.take_succ_cons, List.take_zero]
      simp only [Act.put, List.setIfInBounds_toArray, List.set_cons_zero, List.set_cons_succ]
      replace hX := hX.trans (hxd.trans hxN)
      go_wp2
      go_ret
      exact Keep.intro ⟨rfl, hWX.out.trans hX⟩
    have hlt : k < 2 := by omega
    have t2 : decide ((k : Int) < 2) = true := decide_eq_true (by omega)
    obtain ⟨nm, hnm0, hnI⟩ : ∃ nm, [Value.int .i64 x, .int .i64 y][k]? = some (.int .i64 nm) ∧ I64 nm := by
      rcases (show k = 0 ∨ k = 1 by omega) with rfl | rfl
      · exact ⟨x, rfl, hxI⟩
      · exact ⟨y, rfl, hyI⟩
    obtain ⟨q, hq⟩ : ∃ q, TrS.has K nm = q := ⟨_, rfl⟩
    obtain ⟨hgt, hh⟩ : ∃ h, TrS.height K nm = h := ⟨_, rfl⟩
    obtain ⟨L, hL⟩ : ∃ L, TrS.path K nm = L := ⟨_, rfl⟩
    obtain ⟨bk, hbk⟩ : ∃ b, backN L steps = b := ⟨_, rfl⟩
    have hHas := hide_ (fun w' (h : Ext w3 w') => hq ▸ Has_any (n := nm) (hT.ext h) hnI)
    have hH1 := hide_ (fun w' (h : Ext w3 w') => hh ▸ Height_any (n := nm) (hT.ext h) hnI)
    have hH2 := hide_ (fun w' (h : Ext w3 w') => hh ▸ refHeight_any (vw := vw) (n := nm) uq (hK.ext BlkR.stays h))
    have hP1 := hide_ (fun w' (h : Ext w3 w') => hL ▸ Path_any (n := nm) (hT.ext h) hnI)
    have hP2 := hide_ (fun w' (h : Ext w3 w') => hL ▸ refPath_any (vw := vw) (n := nm) uq (hK.ext BlkR.stays h))
    have hBk1 := hide_ (fun w' (h : Ext w3 w') => hbk ▸ hL ▸ Back_any (n := nm) (steps := steps) (hT.ext h) hnI hsI)
    have hBk2 := hide_ (fun w' (h : Ext w3 w') => hbk ▸ hL ▸ refBack_any (vw := vw) (n := nm) (steps := steps) uq (hK.ext BlkR.stays h))
    have hGt := hide_ (fun w' (h : Ext w3 w') => hq ▸ refGet_any (vw := vw) (n := nm) (hK.ext BlkR.stays h))
    have hnm := hide_ hnm0
    have hlt' := hide_ hlt
    clear hge hlt hnm0 hnI hq hh hL hbk
    go_wp2_with ((first
      | ((with_reducible refine at_get ?_); refine w_aget Try.underlying51 (by kernel_rfl) (agg_of (by kernel_rfl)) _ _ k rfl rfl rfl rfl hnm.out rfl ?_)
      | ((with_reducible refine at_load ?_); refine w_aload Try.stDoc _ rfl rfl rfl f8 rfl ?_)
      | (go_at_call 26; refine (hGt.out _ hX).mono ?_; rintro e w4 ⟨u11, rfl, hu11, hr11, hx⟩; have hone11 := blk_one (a := (getOr K nm).slot) (b := (getOr K nm).miner) (c := (getOr K nm).var) (d := (getOr K nm).parent) hu11.one'; replace f4 := f4.ext hx; replace f8 := f8.ext hx; replace hX := hX.trans hx; clear hx hu11 hr11)
      | ((with_reducible refine at_alloc ?_); refine w_alloc Try.stBlk rfl rfl ?_; intro g11 w2 hg11 hx2 f11)
      | ((with_reducible refine at_store ?_); refine w_astore Try.stBlk _ _ (us := bRow (getOr K nm) u11) rfl rfl rfl rfl rfl f11 rfl rfl hone11 ?_; intro w9 hm3 f6; replace hx2 := hm3.after hx2 (fun i hi => by subst hi; exact hg11); replace hX := hX.trans hx2; replace f4 := f4.ext hx2; replace f8 := f8.ext hx2; clear hm3 f6 hx2 hg11 f11 hone11)
      | fail) <;> (try simp only [Act.put, List.setIfInBounds_toArray, List.set_cons_zero, List.set_cons_succ]))
    refine wp_region_phx (by kernel_rfl) ?_; intro wd hxd; have F8 := f8.ext hxd
    refine Ph.rest 0 35 (by kernel_rfl) ?_
    refine LinL.step (s := (.val (.pointer (some ⟨p, 0, none⟩)))) [(7, none)] rfl (by kernel_rfl) (op_out 7 (.pointer (some ⟨p, 0, none⟩)) rfl (.inl rfl) rfl) ?_
    refine LinL.step (s := (.val (.int .i64 nm))) [(10, none)] rfl (by kernel_rfl) (op_out 10 (.int .i64 nm) rfl (.inl rfl) rfl) ?_
    refine LinL.step (s := (.val (.bool q))) [(33, some 1), (34, some 0)] rfl (by kernel_rfl) (op_calls 30 #[(.tmp 33), (.tmp 34)] #[22, 3] (fun σ => #[.pointer (some ⟨p, 0, none⟩), .int .i64 nm]) rfl rfl (fun _ _ => rfl) fun σ w' hx hg => ⟨by have h33 : σ.tmps.getD 33 undef = .pointer (some ⟨p, 0, none⟩) := hg.1; have h34 : σ.tmps.getD 34 undef = .int .i64 nm := hg.2.1; simp only [List.map_toArray, List.map_cons, List.map_nil, Act.eval, h33, h34], retH (hHas.out w' (hX.trans (hxd.trans hx)))⟩) ?_
    refine LinL.step (s := (.val (.bool q))) [(12, none)] rfl (by kernel_rfl) (op_out 12 (.bool q) rfl (.inl rfl) rfl) ?_
    refine LinL.step (s := (.val (.bool false))) [(35, some 1), (36, some 0)] rfl (by kernel_rfl) (op_runs rfl fun σ w' hx hg => ⟨(.bool false), by have h35 : σ.tmps.getD 35 undef = .bool q := hg.1; have h36 : σ.tmps.getD 36 undef = .bool q := hg.2.1; unfold Runs execOp; simp [Act.eval, h35, h36, go_sem], rfl⟩) ?_
    refine LinL.step (s := (.val (.bool false))) [(37, some 0)] rfl (by kernel_rfl) (op_copy 37 0 (.val (.bool false)) rfl (.inl rfl) rfl) ?_
    refine LinL.step (s := (.val (.pointer (some ⟨p, 0, none⟩)))) [(7, none), (38, some 0)] rfl (by kernel_rfl) (op_yes (reads := [(7, none)]) 5 38 0 false rfl rfl rfl (op_out 7 (.pointer (some ⟨p, 0, none⟩)) rfl (.inl rfl) rfl)) ?_
    refine LinL.step (s := (.val (.int .i64 nm))) [(10, none), (38, some 1)] rfl (by kernel_rfl) (op_yes (reads := [(10, none)]) 5 38 1 false rfl rfl rfl (op_out 10 (.int .i64 nm) rfl (.inl rfl) rfl)) ?_
    refine LinL.step (s := (.val (.int .i64 hgt))) [(39, some 1), (40, some 0), (38, some 2)] rfl (by kernel_rfl) (op_yes (reads := [(39, some 1), (40, some 0)]) 5 38 2 false rfl rfl rfl (op_calls 16 #[(.tmp 39), (.tmp 40)] #[22, 3] (fun σ => #[.pointer (some ⟨p, 0, none⟩), .int .i64 nm]) rfl rfl (fun _ _ => rfl) fun σ w' hx hg => ⟨by have h39 : σ.tmps.getD 39 undef = .pointer (some ⟨p, 0, none⟩) := hg.1; have h40 : σ.tmps.getD 40 undef = .int .i64 nm := hg.2.1; simp only [List.map_toArray, List.map_cons, List.map_nil, Act.eval, h39, h40], retH (hH1.out w' (hX.trans (hxd.trans hx)))⟩)) ?_
    refine LinL.step (s := (.val (.agg #[vk, vw]))) [(8, none), (38, some 3)] rfl (by kernel_rfl) (op_yes (reads := [(8, none)]) 5 38 3 false rfl rfl rfl (op_runs rfl fun σ w' hx hg => ⟨_, runs_aload (ρ := σ.eval) (w := w') Try.stDoc (.tmp 8) rfl hg.1 (F8.ext hx) rfl, rfl⟩)) ?_
    refine LinL.step (s := (.val (.int .i64 nm))) [(10, none), (38, some 4)] rfl (by kernel_rfl) (op_yes (reads := [(10, none)]) 5 38 4 false rfl rfl rfl (op_out 10 (.int .i64 nm) rfl (.inl rfl) rfl)) ?_
    refine LinL.step (s := (.val (.int .i64 hgt))) [(42, some 1), (43, some 0), (38, some 5)] rfl (by kernel_rfl) (op_yes (reads := [(42, some 1), (43, some 0)]) 5 38 5 false rfl rfl rfl (op_calls 31 #[(.tmp 42), (.tmp 43)] #[31, 3] (fun σ => #[.agg #[vk, vw], .int .i64 nm]) rfl rfl (fun _ _ => rfl) fun σ w' hx hg => ⟨by have h42 : σ.tmps.getD 42 undef = .agg #[vk, vw] := hg.1; have h43 : σ.tmps.getD 43 undef = .int .i64 nm := hg.2.1; simp only [List.map_toArray, List.map_cons, List.map_nil, Act.eval, h42, h43], retH (hH2.out w' (hX.trans (hxd.trans hx)))⟩)) ?_
    refine LinL.step (s := (.val (.bool false))) [(41, some 3), (44, some 0), (38, some 6)] rfl (by kernel_rfl) (op_yes (reads := [(41, some 3), (44, some 0)]) 5 38 6 false rfl rfl rfl (op_runs rfl fun σ w' hx hg => ⟨(.bool false), by have h41 : σ.tmps.getD 41 undef = .int .i64 hgt := hg.1; have h44 : σ.tmps.getD 44 undef = .int .i64 hgt := hg.2.1; unfold Runs execOp; simp [Act.eval, h41, h44, go_sem], rfl⟩)) ?_
    refine LinL.step (s := (.val (.bool false))) [(38, some 7), (45, some 0)] rfl (by kernel_rfl) (op_runs rfl fun σ w' hx hg => ⟨_, runs_pick_f (ρ := σ.eval) (w := w') (.tmp 38) (.const (.bool true)) (.tmp 45) rfl hg.1 hg.2.1, rfl⟩) ?_
    refine LinL.step (s := (.val (.bool false))) [(46, some 0)] rfl (by kernel_rfl) (op_copy 46 0 (.val (.bool false)) rfl (.inl rfl) rfl) ?_
    refine LinL.step (s := (.val (.pointer (some ⟨p, 0, none⟩)))) [(7, none), (47, some 0)] rfl (by kernel_rfl) (op_yes (reads := [(7, none)]) 14 47 0 false rfl rfl rfl (op_out 7 (.pointer (some ⟨p, 0, none⟩)) rfl (.inl rfl) rfl)) ?_
    refine LinL.step (s := (.val (.int .i64 nm))) [(10, none), (47, some 1)] rfl (by kernel_rfl) (op_yes (reads := [(10, none)]) 14 47 1 false rfl rfl rfl (op_out 10 (.int .i64 nm) rfl (.inl rfl) rfl)) ?_
    refine LinL.step (s := (.sl (i64s L))) [(48, some 1), (49, some 0), (47, some 2)] rfl (by kernel_rfl) (op_yes (reads := [(48, some 1), (49, some 0)]) 14 47 2 false rfl rfl rfl (op_calls 32 #[(.tmp 48), (.tmp 49)] #[22, 3] (fun σ => #[.pointer (some ⟨p, 0, none⟩), .int .i64 nm]) rfl rfl (fun _ _ => rfl) fun σ w' hx hg => ⟨by have h48 : σ.tmps.getD 48 undef = .pointer (some ⟨p, 0, none⟩) := hg.1; have h49 : σ.tmps.getD 49 undef = .int .i64 nm := hg.2.1; simp only [List.map_toArray, List.map_cons, List.map_nil, Act.eval, h48, h49], retSl (hP1.out w' (hX.trans (hxd.trans hx)))⟩)) ?_
    refine LinL.step (s := (.val (.agg #[vk, vw]))) [(8, none), (47, some 3)] rfl (by kernel_rfl) (op_yes (reads := [(8, none)]) 14 47 3 false rfl rfl rfl (op_runs rfl fun σ w' hx hg => ⟨_, runs_aload (ρ := σ.eval) (w := w') Try.stDoc (.tmp 8) rfl hg.1 (F8.ext hx) rfl, rfl⟩)) ?_
    refine LinL.step (s := (.val (.int .i64 nm))) [(10, none), (47, some 4)] rfl (by kernel_rfl) (op_yes (reads := [(10, none)]) 14 47 4 false rfl rfl rfl (op_out 10 (.int .i64 nm) rfl (.inl rfl) rfl)) ?_
    refine LinL.step (s := (.sl (i64s L))) [(51, some 1), (52, some 0), (47, some 5)] rfl (by kernel_rfl) (op_yes (reads := [(51, some 1), (52, some 0)]) 14 47 5 false rfl rfl rfl (op_calls 33 #[(.tmp 51), (.tmp 52)] #[31, 3] (fun σ => #[.agg #[vk, vw], .int .i64 nm]) rfl rfl (fun _ _ => rfl) fun σ w' hx hg => ⟨by have h51 : σ.tmps.getD 51 undef = .agg #[vk, vw] := hg.1; have h52 : σ.tmps.getD 52 undef = .int .i64 nm := hg.2.1; simp only [List.map_toArray, List.map_cons, List.map_nil, Act.eval, h51, h52], retSl (hP2.out w' (hX.trans (hxd.trans hx)))⟩)) ?_
    refine LinL.step (s := (.val (.bool true))) [(50, some 3), (53, some 0), (47, some 6)] rfl (by kernel_rfl) (op_yes (reads := [(50, some 3), (53, some 0)]) 14 47 6 false rfl rfl rfl (op_calls 20 #[(.tmp 50), (.tmp 53)] #[26, 26] (fun σ => #[σ.tmps.getD 50 undef, σ.tmps.getD 53 undef]) rfl rfl (fun _ _ => rfl) fun σ w' hx hg => ⟨by skip; simp only [List.map_toArray, List.map_cons, List.map_nil, Act.eval], retH (SameInts_any _ _ L _ hg.1 hg.2.1)⟩)) ?_
    refine LinL.step (s := (.val (.bool false))) [(54, some 0), (47, some 7)] rfl (by kernel_rfl) (op_yes (reads := [(54, some 0)]) 14 47 7 false rfl rfl rfl (op_runs rfl fun σ w' hx hg => ⟨(.bool false), by have h54 : σ.tmps.getD 54 undef = .bool true := hg.1; unfold Runs execOp; simp [Act.eval, h54, go_sem], rfl⟩)) ?_
    refine LinL.step (s := (.val (.bool false))) [(47, some 8), (55, some 0)] rfl (by kernel_rfl) (op_runs rfl fun σ w' hx hg => ⟨_, runs_pick_f (ρ := σ.eval) (w := w') (.tmp 47) (.const (.bool true)) (.tmp 55) rfl hg.1 hg.2.1, rfl⟩) ?_
    refine LinL.step (s := (.val (.bool false))) [(56, some 0)] rfl (by kernel_rfl) (op_copy 56 0 (.val (.bool false)) rfl (.inl rfl) rfl) ?_
    refine LinL.step (s := (.val (.pointer (some ⟨p, 0, none⟩)))) [(7, none), (57, some 0)] rfl (by kernel_rfl) (op_yes (reads := [(7, none)]) 24 57 0 false rfl rfl rfl (op_out 7 (.pointer (some ⟨p, 0, none⟩)) rfl (.inl rfl) rfl)) ?_
    refine LinL.step (s := (.val (.int .i64 nm))) [(10, none), (57, some 1)] rfl (by kernel_rfl) (op_yes (reads := [(10, none)]) 24 57 1 false rfl rfl rfl (op_out 10 (.int .i64 nm) rfl (.inl rfl) rfl)) ?_
    refine LinL.step (s := (.val (.int .i64 steps))) [(2, none), (57, some 2)] rfl (by kernel_rfl) (op_yes (reads := [(2, none)]) 24 57 2 false rfl rfl rfl (op_out 2 (.int .i64 steps) rfl (.inl rfl) rfl)) ?_
    refine LinL.step (s := (.val (.int .i64 bk))) [(58, some 2), (59, some 1), (60, some 0), (57, some 3)] rfl (by kernel_rfl) (op_yes (reads := [(58, some 2), (59, some 1), (60, some 0)]) 24 57 3 false rfl rfl rfl (op_calls 34 #[(.tmp 58), (.tmp 59), (.tmp 60)] #[22, 3, 3] (fun σ => #[.pointer (some ⟨p, 0, none⟩), .int .i64 nm, .int .i64 steps]) rfl rfl (fun _ _ => rfl) fun σ w' hx hg => ⟨by have h58 : σ.tmps.getD 58 undef = .pointer (some ⟨p, 0, none⟩) := hg.1; have h59 : σ.tmps.getD 59 undef = .int .i64 nm := hg.2.1; have h60 : σ.tmps.getD 60 undef = .int .i64 steps := hg.2.2.1; simp only [List.map_toArray, List.map_cons, List.map_nil, Act.eval, h58, h59, h60], retH (hBk1.out w' (hX.trans (hxd.trans hx)))⟩)) ?_
    refine LinL.step (s := (.val (.agg #[vk, vw]))) [(8, none), (57, some 4)] rfl (by kernel_rfl) (op_yes (reads := [(8, none)]) 24 57 4 false rfl rfl rfl (op_runs rfl fun σ w' hx hg => ⟨_, runs_aload (ρ := σ.eval) (w := w') Try.stDoc (.tmp 8) rfl hg.1 (F8.ext hx) rfl, rfl⟩)) ?_
    refine LinL.step (s := (.val (.int .i64 nm))) [(10, none), (57, some 5)] rfl (by kernel_rfl) (op_yes (reads := [(10, none)]) 24 57 5 false rfl rfl rfl (op_out 10 (.int .i64 nm) rfl (.inl rfl) rfl)) ?_
    refine LinL.step (s := (.val (.int .i64 steps))) [(2, none), (57, some 6)] rfl (by kernel_rfl) (op_yes (reads := [(2, none)]) 24 57 6 false rfl rfl rfl (op_out 2 (.int .i64 steps) rfl (.inl rfl) rfl)) ?_
    refine LinL.step (s := (.val (.int .i64 bk))) [(62, some 2), (63, some 1), (64, some 0), (57, some 7)] rfl (by kernel_rfl) (op_yes (reads := [(62, some 2), (63, some 1), (64, some 0)]) 24 57 7 false rfl rfl rfl (op_calls 35 #[(.tmp 62), (.tmp 63), (.tmp 64)] #[31, 3, 3] (fun σ => #[.agg #[vk, vw], .int .i64 nm, .int .i64 steps]) rfl rfl (fun _ _ => rfl) fun σ w' hx hg => ⟨by have h62 : σ.tmps.getD 62 undef = .agg #[vk, vw] := hg.1; have h63 : σ.tmps.getD 63 undef = .int .i64 nm := hg.2.1; have h64 : σ.tmps.getD 64 undef = .int .i64 steps := hg.2.2.1; simp only [List.map_toArray, List.map_cons, List.map_nil, Act.eval, h62, h63, h64], retH (hBk2.out w' (hX.trans (hxd.trans hx)))⟩)) ?_
    refine LinL.step (s := (.val (.bool false))) [(61, some 4), (65, some 0), (57, some 8)] rfl (by kernel_rfl) (op_yes (reads := [(61, some 4), (65, some 0)]) 24 57 8 false rfl rfl rfl (op_runs rfl fun σ w' hx hg => ⟨(.bool false), by have h61 : σ.tmps.getD 61 undef = .int .i64 bk := hg.1; have h65 : σ.tmps.getD 65 undef = .int .i64 bk := hg.2.1; unfold Runs execOp; simp [Act.eval, h61, h65, go_sem], rfl⟩)) ?_
    refine LinL.step (s := (.val (.bool false))) [(57, some 9), (66, some 0)] rfl (by kernel_rfl) (op_runs rfl fun σ w' hx hg => ⟨_, runs_pick_f (ρ := σ.eval) (w := w') (.tmp 57) (.const (.bool true)) (.tmp 66) rfl hg.1 hg.2.1, rfl⟩) ?_
    intro wN hxN
    simp only [Fin', List.reverse_cons, List.reverse_nil, List.nil_append, List.cons_append, List.drop_zero, List.take_succ_cons, List.take_zero]
    intro q50 hq50 q53 hq53
    simp only [Act.put, List.setIfInBounds_toArray, List.set_cons_zero, List.set_cons_succ]
    replace f4 := f4.ext (hxd.trans hxN)
    replace f8 := f8.ext (hxd.trans hxN)
    replace hX := hX.trans (hxd.trans hxN)
    clear hxd hxN F8
    go_wp2
    go_roundw
    case rel => exact ⟨k + 1, by go_num, hlt'.out, hX, f4, f8⟩
    case measure => have := hlt'.out; simp [RowKit.intOf]; omega

set_option maxRecDepth 100000 in
theorem treeTells_lifted (os : Os) (started : os.Started) (H : Type) (enc : TypeId × Value → H) :
    ReturnsInHanded {} Try.checked os 5 .any (Rows.treeTellsSpec.pre6 enc Try.prog Try.f5 Rows.treeTellsRow.domain false) (Rows.treeTellsSpec.post enc Try.prog Try.f5 false true false false) := by
  refine law_lifted (s := Rows.treeTellsSpec) (conds := Rows.treeTellsRow.domain) Try.func5 (by kernel_rfl) rfl (fun H ds h => by
      rw [show Try.f5.params.size = 3 from rfl] at h
      match ds, h with
      | [d0, d1, d2], _ => rfl) rfl rfl (by decide +kernel) os started H enc
    (ChangeSpec.witness6 (enc := enc) (C := Try.checked) false ⟨#[], #[.slice none 0 0, .agg #[.int .i64 0, .int .i64 0], .int .i64 0], []⟩ 8 (by kernel_rfl) (by kernel_rfl) (by kernel_rfl) (by kernel_rfl)) ?_
  intro W base args ds p hval hA hsz _
  have hp : Try.f5.params.toList = [29, 51, 3] := rfl
  rw [hp] at hA hsz
  obtain ⟨v0, v1, v2, d0, d1, d2, p0, p1, p2, rfl, rfl, rfl, h0, h1, h2⟩ := trodAll_three hA
  obtain ⟨l0, k0⟩ := arg_Blks hsz (j := 0) rfl rfl (hval 0 29 v0 rfl rfl) h0
  obtain ⟨x1, y1, rfl, b1, c1⟩ := open_int_array2 Try.underlying51 Try.underlying3 (by kernel_rfl) (by kernel_rfl) (hval 1 51 v1 rfl rfl) h1
  simp [Lit.wf, IntKind.min, IntKind.max, IntKind.signed, IntKind.bits] at b1 c1
  obtain ⟨a2, rfl, b2, c2⟩ := arg_int (hval 2 3 v2 rfl rfl) h2
  exact treeTells_law v0 l0 x1 y1 a2 W k0 b1 c1 ⟨b2, c2⟩

theorem treeTells_holds : Rows.TreeTellsSaid :=
  OpenClaim.holds_of_wide 5 Try.f5 rfl rfl rfl rfl rfl rfl rfl ⟨rfl, rfl, rfl, rfl, rfl⟩ rfl rfl rfl rfl rfl (by kernel_rfl) Try.func5 (by kernel_rfl)
    (of_decide_eq_true (by kernel_rfl)) (by unfold Func.isWrapper; first | (rw [if_pos (by decide +kernel)]; kernel_rfl) | (rw [if_neg (by decide +kernel)]; exact ⟨rfl, rfl⟩))
    (fun os started H enc _ => treeTells_lifted os started H enc)
#print axioms treeTells_holds

end Go.Proofs.Ytabelhoncmnpgaa
