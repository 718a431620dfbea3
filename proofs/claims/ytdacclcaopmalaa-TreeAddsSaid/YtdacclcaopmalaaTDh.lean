/- The document's tree of blocks: what is missing, the tip, steps back, what two have in common. -/
import Derived.Test.YtdacclcaopmalaaTDg
import Derived.Test.YtdacclcaopmalaaFL
namespace Go.Proofs.Ytdacclcaopmalaa
set_option maxRecDepth 100000
open Go.RowKit Go.ChangeShapes Go.WideShapes Go.ChangeAt

theorem retSl {f : FuncId} {args : Array Value} {w : World} {base : Nat} {l : List Int} (h : Calls Try.prog f args w fun e w' => ∃ v', e = .returned v' ∧ OwnI base w' v' l ∧ Ext w w') : Calls Try.prog f args w fun e w' => ∃ v', e = .returned v' ∧ Ext w w' ∧ Sp.p (.sl (i64s l)) v' w' := by
  refine h.mono ?_
  rintro e w' ⟨v', rfl, ho, hx⟩
  exact ⟨_, rfl, hx, ho.ints⟩
def wants (K V : List BlkD) (b : BlkD) : Bool := !TrS.ready K b && !TrS.has V b.parent

set_option maxRecDepth 100000 in
set_option maxHeartbeats 3200000 in
theorem refMissing_any {w : World} {vk vw : Value} {K V : List BlkD} (hK0 : Recs 5 BlkR w vk K) (hV0 : Recs 5 BlkR w vw V) (hV16 : V.length ≤ 16) :
    Calls Try.prog 31 #[.agg #[vk, vw]] w fun e w' => ∃ v', e = .returned v' ∧ Ints w' v' (TrS.missing ⟨K, V⟩) ∧ Ext w w' := by
  refine calls_keep ?_
  have hK := hide_ hK0
  have hV := hide_ hV0
  clear hK0 hV0
  go_enter Try.func31, Try.ntmps31
  go_wp2_with ((first
    | ((with_reducible refine at_box ?_); refine w_box _ [vk, vw] rfl rfl rfl rfl ?_; intro g1 w1 hg1 hX f1)
    | ((with_reducible refine at_lit ?_); refine w_new Try.elI (i64s []) rfl rfl rfl (i64s_cells _) rfl (by omega) ?_; intro v3 w5 hx3 o3; replace o3 : OwnI _ w5 v3 [] := o3; have j3 := o3.ints; replace f1 := f1.ext hx3; replace hX := hX.trans hx3; clear hx3 o3)
    | ((with_reducible refine at_field ?_); (try refine w_yes _ _ _ rfl rfl rfl ?_); refine w_field Try.stDoc _ _ _ rfl rfl rfl (by omega) ?_)
    | ((with_reducible refine at_load ?_); (try refine w_yes _ _ _ rfl rfl rfl ?_); refine w_fload _ rfl rfl rfl f1 rfl (agg_of (by kernel_rfl)) ?_)
    | ((with_reducible refine at_bi ?_); refine w_rlen Try.enBlk.elS _ rfl rfl rfl (hV.out.ext BlkR.stays hX) ?_)
    | fail) <;> (try simp only [Act.put, List.setIfInBounds_toArray, List.set_cons_zero, List.set_cons_succ]))
  go_loopw [3, 10] (fun u3 i wr => ∃ (k : Nat) (l : List Int), i = .int .i64 k ∧ k ≤ V.length ∧ rise (((V.take k).filter (wants K V)).map BlkD.parent) = l ∧ Ints wr u3 l ∧ Ext w wr ∧ Fs wr g1 [vk, vw]) (fun _ i _ => V.length - (RowKit.intOf i).toNat)
  case atStart => exact ⟨0, [], rfl, Nat.zero_le _, rfl, j3, hX, f1⟩
  case round =>
    clear hX j3 f1
    obtain ⟨k, l, rfl, hk, hl, ho, hX, f1⟩ := hrel
    by_cases hge : V.length ≤ k
    · obtain rfl : k = V.length := by omega
      have t2 : decide (V.length < V.length) = false := by simp
      rw [List.take_length] at hl
      have e := hide_ (show TrS.missing ⟨K, V⟩ = l from hl)
      replace ho := hide_ ho
      clear hl hge
      go_wp2
      go_ret
      exact Keep.intro ⟨_, rfl, by rw [e.out]; exact ho.out, hX⟩
    have hlt : k < V.length := by omega
    have t2 : decide (k < V.length) = true := by simpa using hlt
    obtain ⟨d, hd0⟩ : ∃ d, V[k]? = some d := ⟨_, List.getElem?_eq_getElem hlt⟩
    have hlt' := hide_ hlt
    have hd := hide_ hd0
    have hR := hide_ (show Rise l by rw [← hl]; exact rise_rise _)
    have hl400 := hide_ (show l.length ≤ 400 by
      rw [← hl]
      have h1 := rise_len_le (((V.take k).filter (wants K V)).map BlkD.parent)
      have h2 := List.length_filter_le (wants K V) (V.take k)
      rw [List.length_map] at h1
      rw [List.length_take] at h2; omega)
    obtain ⟨wn, hwn⟩ : ∃ wn, V.map BlkD.name = wn := ⟨_, rfl⟩
    have hWt := hide_ (fun w' (h : Ext w w') => hwn ▸ refWaiting_any (vk := vk) (hV.out.ext BlkR.stays h) hV16)
    have hno := fun (h : wants K V d = false) => hide_ (show rise (((V.take (k + 1)).filter (wants K V)).map BlkD.parent) = l by
      rw [List.take_add_one, hd0, List.filter_append, ← hl]; simp [h])
    have hyes := fun (h : wants K V d = true) => hide_ (show rise (((V.take (k + 1)).filter (wants K V)).map BlkD.parent) = ins l d.parent by
      rw [List.take_add_one, hd0, List.filter_append, List.map_append, ← hl]; simp [h]; exact rise_snoc)
    have hin : decide (d.parent ∈ wn) = TrS.has V d.parent := by rw [← hwn]; exact in_has
    have hRd0 := (fun (u : Value) (hu : Recs 2 TxR w u d.txs) w' (h : Ext w w') => refReady_any (vw := vw) (b := d) (hK.out.ext BlkR.stays h) hu.one')
    unfold wants at hno hyes
    clear hge hlt hd0 hl hwn
    cases hq : TrS.ready K d
    rotate_left
    · have hno' := hno (by rw [hq]; rfl)
      clear hno hyes hin
      go_wp2_with ((first
        | ((with_reducible refine at_idx ?_); refine w_didx Try.enBlk.elS _ _ k rfl rfl rfl rfl hV.out hX hd.out ?_; intro pa u hrow hu hraw; have hone := blk_one (a := d.slot) (b := d.miner) (c := d.var) (d := d.parent) hu.one'; replace hrow := hide_ hrow; replace hraw := hide_ hraw; replace hu := hide_ hu)
        | ((with_reducible refine at_load ?_); refine w_pload Try.stBlk _ rfl rfl rfl hrow.out rfl ?_)
        | ((with_reducible refine at_alloc ?_); refine w_alloc Try.stBlk rfl rfl ?_; intro g5 w2 hg2 hx2 f5)
        | ((with_reducible refine at_store ?_); refine w_astore Try.stBlk _ _ (us := bRow d u) rfl rfl rfl rfl rfl f5 rfl rfl hone ?_; intro w3 hm3 f3; replace f5 : Fs w3 g5 (bRow d u) := f3; replace hx2 := hm3.after hx2 (fun i hi => by subst hi; exact hg2); replace hX := hX.trans hx2; replace ho := ho.ext hx2; replace f1 := f1.ext hx2; clear hm3 f3 hx2 hrow hg2)
        | fail) <;> (try simp only [Act.put, List.setIfInBounds_toArray, List.set_cons_zero, List.set_cons_succ]))
      have hRd := hide_ (hq ▸ hRd0 u hu.out)
      clear hRd0 hq
      refine wp_region_phx (by kernel_rfl) ?_; intro wd hxd; have F1 := f1.ext hxd; have F5 := f5.ext hxd
      refine Ph.rest 0 12 (by kernel_rfl) ?_
      refine LinL.step (s := (.val (.agg #[vk, vw]))) [(1, none)] rfl (by kernel_rfl) (op_runs rfl fun σ w' hx hg => ⟨_, runs_aload (ρ := σ.eval) (w := w') Try.stDoc (.tmp 1) rfl hg.1 (F1.ext hx) rfl, rfl⟩) ?_
      refine LinL.step (s := (.val (.agg #[.int .i64 d.slot, .int .i64 d.miner, .int .i64 d.var, .int .i64 d.parent, u]))) [(5, none)] rfl (by kernel_rfl) (op_runs rfl fun σ w' hx hg => ⟨_, runs_aload (ρ := σ.eval) (w := w') Try.stBlk (.tmp 5) rfl hg.1 (F5.ext hx) rfl, rfl⟩) ?_
      refine LinL.step (s := (.val (.bool true))) [(14, some 1), (15, some 0)] rfl (by kernel_rfl) (op_calls 58 #[(.tmp 14), (.tmp 15)] #[52, 54] (fun σ => #[.agg #[vk, vw], .agg #[.int .i64 d.slot, .int .i64 d.miner, .int .i64 d.var, .int .i64 d.parent, u]]) rfl rfl (fun _ _ => rfl) fun σ w' hx hg => ⟨by have h14 : σ.tmps.getD 14 undef = .agg #[vk, vw] := hg.1; have h15 : σ.tmps.getD 15 undef = .agg #[.int .i64 d.slot, .int .i64 d.miner, .int .i64 d.var, .int .i64 d.parent, u] := hg.2.1; simp only [List.map_toArray, List.map_cons, List.map_nil, Act.eval, h14, h15], retH (hRd.out w' (hX.trans (hxd.trans hx)))⟩) ?_
      refine LinL.step (s := (.val (.bool false))) [(16, some 0)] rfl (by kernel_rfl) (op_runs rfl fun σ w' hx hg => ⟨(.bool false), by have h16 : σ.tmps.getD 16 undef = .bool true := hg.1; unfold Runs execOp; simp [Act.eval, h16, go_sem], rfl⟩) ?_
      refine LinL.step (s := (.val (.bool false))) [(17, some 0)] rfl (by kernel_rfl) (op_copy 17 0 (.val (.bool false)) rfl (.inl rfl) rfl) ?_
      refine LinL.step (s := .val undef) [(1, none), (18, some 0)] rfl (by kernel_rfl) (op_no (reads := [(1, none)]) 4 18 0 true rfl rfl rfl) ?_
      refine LinL.step (s := .val undef) [(19, some 0), (18, some 1)] rfl (by kernel_rfl) (op_no (reads := [(19, some 0)]) 4 18 1 true rfl rfl rfl) ?_
      refine LinL.step (s := .val undef) [(5, none), (18, some 2)] rfl (by kernel_rfl) (op_no (reads := [(5, none)]) 4 18 2 true rfl rfl rfl) ?_
      refine LinL.step (s := .val undef) [(21, some 0), (18, some 3)] rfl (by kernel_rfl) (op_no (reads := [(21, some 0)]) 4 18 3 true rfl rfl rfl) ?_
      refine LinL.step (s := .val undef) [(20, some 2), (22, some 0), (18, some 4)] rfl (by kernel_rfl) (op_no (reads := [(20, some 2), (22, some 0)]) 4 18 4 true rfl rfl rfl) ?_
      refine LinL.step (s := .val undef) [(23, some 0), (18, some 5)] rfl (by kernel_rfl) (op_no (reads := [(23, some 0)]) 4 18 5 true rfl rfl rfl) ?_
      refine LinL.step (s := (.val (.bool false))) [(18, some 6), (24, some 0)] rfl (by kernel_rfl) (op_runs rfl fun σ w' hx hg => ⟨_, runs_pick_f (ρ := σ.eval) (w := w') (.tmp 18) (.tmp 24) (.const (.bool false)) rfl hg.1 rfl, rfl⟩) ?_
      intro wN hxN
      simp only [Fin', List.reverse_cons, List.reverse_nil, List.nil_append, List.cons_append, List.drop_zero, List.take_succ_cons, List.take_zero]
      simp only [Act.put, List.setIfInBounds_toArray, List.set_cons_zero, List.set_cons_succ]
      replace ho := ho.ext (hxd.trans hxN)
      replace f1 := f1.ext (hxd.trans hxN)
      replace hX := hX.trans (hxd.trans hxN)
      clear hxd hxN F1 F5 f5
      go_wp2
      go_roundw
      case rel => exact ⟨k + 1, _, by go_num, hlt'.out, hno'.out, ho, hX, f1⟩
      case measure => have := hlt'.out; simp [RowKit.intOf]; omega
    cases hr : TrS.has V d.parent
    rotate_left
    · have hno' := hno (by rw [hq, hr]; rfl)
      clear hno hyes
      go_wp2_with ((first
        | ((with_reducible refine at_idx ?_); refine w_didx Try.enBlk.elS _ _ k rfl rfl rfl rfl hV.out hX hd.out ?_; intro pa u hrow hu hraw; have hone := blk_one (a := d.slot) (b := d.miner) (c := d.var) (d := d.parent) hu.one'; replace hrow := hide_ hrow; replace hraw := hide_ hraw; replace hu := hide_ hu)
        | ((with_reducible refine at_load ?_); refine w_pload Try.stBlk _ rfl rfl rfl hrow.out rfl ?_)
        | ((with_reducible refine at_alloc ?_); refine w_alloc Try.stBlk rfl rfl ?_; intro g5 w2 hg2 hx2 f5)
        | ((with_reducible refine at_store ?_); refine w_astore Try.stBlk _ _ (us := bRow d u) rfl rfl rfl rfl rfl f5 rfl rfl hone ?_; intro w3 hm3 f3; replace f5 : Fs w3 g5 (bRow d u) := f3; replace hx2 := hm3.after hx2 (fun i hi => by subst hi; exact hg2); replace hX := hX.trans hx2; replace ho := ho.ext hx2; replace f1 := f1.ext hx2; clear hm3 f3 hx2 hrow hg2)
        | fail) <;> (try simp only [Act.put, List.setIfInBounds_toArray, List.set_cons_zero, List.set_cons_succ]))
      have hRd := hide_ (hq ▸ hRd0 u hu.out)
      have hIn := hide_ (fun w' v (h : Ints w' v wn) => hr ▸ hin ▸ refIn_any (n := d.parent) h)
      clear hRd0 hq hr hin
      refine wp_region_phx (by kernel_rfl) ?_; intro wd hxd; have F1 := f1.ext hxd; have F5 := f5.ext hxd
      refine Ph.rest 0 12 (by kernel_rfl) ?_
      refine LinL.step (s := (.val (.agg #[vk, vw]))) [(1, none)] rfl (by kernel_rfl) (op_runs rfl fun σ w' hx hg => ⟨_, runs_aload (ρ := σ.eval) (w := w') Try.stDoc (.tmp 1) rfl hg.1 (F1.ext hx) rfl, rfl⟩) ?_
      refine LinL.step (s := (.val (.agg #[.int .i64 d.slot, .int .i64 d.miner, .int .i64 d.var, .int .i64 d.parent, u]))) [(5, none)] rfl (by kernel_rfl) (op_runs rfl fun σ w' hx hg => ⟨_, runs_aload (ρ := σ.eval) (w := w') Try.stBlk (.tmp 5) rfl hg.1 (F5.ext hx) rfl, rfl⟩) ?_
      refine LinL.step (s := (.val (.bool false))) [(14, some 1), (15, some 0)] rfl (by kernel_rfl) (op_calls 58 #[(.tmp 14), (.tmp 15)] #[52, 54] (fun σ => #[.agg #[vk, vw], .agg #[.int .i64 d.slot, .int .i64 d.miner, .int .i64 d.var, .int .i64 d.parent, u]]) rfl rfl (fun _ _ => rfl) fun σ w' hx hg => ⟨by have h14 : σ.tmps.getD 14 undef = .agg #[vk, vw] := hg.1; have h15 : σ.tmps.getD 15 undef = .agg #[.int .i64 d.slot, .int .i64 d.miner, .int .i64 d.var, .int .i64 d.parent, u] := hg.2.1; simp only [List.map_toArray, List.map_cons, List.map_nil, Act.eval, h14, h15], retH (hRd.out w' (hX.trans (hxd.trans hx)))⟩) ?_
      refine LinL.step (s := (.val (.bool true))) [(16, some 0)] rfl (by kernel_rfl) (op_runs rfl fun σ w' hx hg => ⟨(.bool true), by have h16 : σ.tmps.getD 16 undef = .bool false := hg.1; unfold Runs execOp; simp [Act.eval, h16, go_sem], rfl⟩) ?_
      refine LinL.step (s := (.val (.bool true))) [(17, some 0)] rfl (by kernel_rfl) (op_copy 17 0 (.val (.bool true)) rfl (.inl rfl) rfl) ?_
      refine LinL.step (s := (.val (.agg #[vk, vw]))) [(1, none), (18, some 0)] rfl (by kernel_rfl) (op_yes (reads := [(1, none)]) 4 18 0 true rfl rfl rfl (op_runs rfl fun σ w' hx hg => ⟨_, runs_aload (ρ := σ.eval) (w := w') Try.stDoc (.tmp 1) rfl hg.1 (F1.ext hx) rfl, rfl⟩)) ?_
      refine LinL.step (s := (.sl (i64s wn))) [(19, some 0), (18, some 1)] rfl (by kernel_rfl) (op_yes (reads := [(19, some 0)]) 4 18 1 true rfl rfl rfl (op_calls 29 #[(.tmp 19)] #[52] (fun σ => #[.agg #[vk, vw]]) rfl rfl (fun _ _ => rfl) fun σ w' hx hg => ⟨by have h19 : σ.tmps.getD 19 undef = .agg #[vk, vw] := hg.1; simp only [List.map_toArray, List.map_cons, List.map_nil, Act.eval, h19], retSl (hWt.out w' (hX.trans (hxd.trans hx)))⟩)) ?_
      refine LinL.step (s := (.val (.pointer (some ⟨g5, 3, none⟩)))) [(5, none), (18, some 2)] rfl (by kernel_rfl) (op_yes (reads := [(5, none)]) 4 18 2 true rfl rfl rfl (op_runs rfl fun σ w' hx hg => ⟨_, runs_field (ρ := σ.eval) (w := w') Try.stBlk (.tmp 5) g5 3 rfl hg.1 (by omega), rfl⟩)) ?_
      refine LinL.step (s := (.val (.int .i64 d.parent))) [(21, some 0), (18, some 3)] rfl (by kernel_rfl) (op_yes (reads := [(21, some 0)]) 4 18 3 true rfl rfl rfl (op_runs rfl fun σ w' hx hg => ⟨_, runs_fload (ρ := σ.eval) (w := w') (.tmp 21) rfl hg.1 (agg_of (by kernel_rfl) _) (F5.ext hx) rfl, rfl⟩)) ?_
      refine LinL.step (s := (.val (.bool true))) [(20, some 2), (22, some 0), (18, some 4)] rfl (by kernel_rfl) (op_yes (reads := [(20, some 2), (22, some 0)]) 4 18 4 true rfl rfl rfl (op_calls 57 #[(.tmp 20), (.tmp 22)] #[32, 3] (fun σ => #[σ.tmps.getD 20 undef, .int .i64 d.parent]) rfl rfl (fun _ _ => rfl) fun σ w' hx hg => ⟨by have h22 : σ.tmps.getD 22 undef = .int .i64 d.parent := hg.2.1; simp only [List.map_toArray, List.map_cons, List.map_nil, Act.eval, h22], retH (hIn.out w' _ hg.1)⟩)) ?_
      refine LinL.step (s := (.val (.bool false))) [(23, some 0), (18, some 5)] rfl (by kernel_rfl) (op_yes (reads := [(23, some 0)]) 4 18 5 true rfl rfl rfl (op_runs rfl fun σ w' hx hg => ⟨(.bool false), by have h23 : σ.tmps.getD 23 undef = .bool true := hg.1; unfold Runs execOp; simp [Act.eval, h23, go_sem], rfl⟩)) ?_
      refine LinL.step (s := (.val (.bool false))) [(18, some 6), (24, some 0)] rfl (by kernel_rfl) (op_runs rfl fun σ w' hx hg => ⟨_, runs_pick_t (ρ := σ.eval) (w := w') (.tmp 18) (.tmp 24) (.const (.bool false)) rfl hg.1 hg.2.1, rfl⟩) ?_
      intro wN hxN
      simp only [Fin', List.reverse_cons, List.reverse_nil, List.nil_append, List.cons_append, List.drop_zero, List.take_succ_cons, List.take_zero]
      intro q20 hq20
      simp only [Act.put, List.setIfInBounds_toArray, List.set_cons_zero, List.set_cons_succ]
      replace ho := ho.ext (hxd.trans hxN)
      replace f1 := f1.ext (hxd.trans hxN)
      replace hX := hX.trans (hxd.trans hxN)
      clear hxd hxN F1 F5 f5
      go_wp2
      go_roundw
      case rel => exact ⟨k + 1, _, by go_num, hlt'.out, hno'.out, ho, hX, f1⟩
      case measure => have := hlt'.out; simp [RowKit.intOf]; omega
    · have hyes' := hyes (by rw [hq, hr]; rfl)
      clear hno hyes
      go_wp2_with ((first
        | ((with_reducible refine at_idx ?_); refine w_didx Try.enBlk.elS _ _ k rfl rfl rfl rfl hV.out hX hd.out ?_; intro pa u hrow hu hraw; have hone := blk_one (a := d.slot) (b := d.miner) (c := d.var) (d := d.parent) hu.one'; replace hrow := hide_ hrow; replace hraw := hide_ hraw; replace hu := hide_ hu)
        | ((with_reducible refine at_load ?_); refine w_pload Try.stBlk _ rfl rfl rfl hrow.out rfl ?_)
        | ((with_reducible refine at_alloc ?_); refine w_alloc Try.stBlk rfl rfl ?_; intro g5 w2 hg2 hx2 f5)
        | ((with_reducible refine at_store ?_); refine w_astore Try.stBlk _ _ (us := bRow d u) rfl rfl rfl rfl rfl f5 rfl rfl hone ?_; intro w3 hm3 f3; replace f5 : Fs w3 g5 (bRow d u) := f3; replace hx2 := hm3.after hx2 (fun i hi => by subst hi; exact hg2); replace hX := hX.trans hx2; replace ho := ho.ext hx2; replace f1 := f1.ext hx2; clear hm3 f3 hx2 hrow hg2)
        | fail) <;> (try simp only [Act.put, List.setIfInBounds_toArray, List.set_cons_zero, List.set_cons_succ]))
      have hRd := hide_ (hq ▸ hRd0 u hu.out)
      have hIn := hide_ (fun w' v (h : Ints w' v wn) => hr ▸ hin ▸ refIn_any (n := d.parent) h)
      clear hRd0 hq hr hin
      refine wp_region_phx (by kernel_rfl) ?_; intro wd hxd; have F1 := f1.ext hxd; have F5 := f5.ext hxd
      refine Ph.rest 0 12 (by kernel_rfl) ?_
      refine LinL.step (s := (.val (.agg #[vk, vw]))) [(1, none)] rfl (by kernel_rfl) (op_runs rfl fun σ w' hx hg => ⟨_, runs_aload (ρ := σ.eval) (w := w') Try.stDoc (.tmp 1) rfl hg.1 (F1.ext hx) rfl, rfl⟩) ?_
      refine LinL.step (s := (.val (.agg #[.int .i64 d.slot, .int .i64 d.miner, .int .i64 d.var, .int .i64 d.parent, u]))) [(5, none)] rfl (by kernel_rfl) (op_runs rfl fun σ w' hx hg => ⟨_, runs_aload (ρ := σ.eval) (w := w') Try.stBlk (.tmp 5) rfl hg.1 (F5.ext hx) rfl, rfl⟩) ?_
      refine LinL.step (s := (.val (.bool false))) [(14, some 1), (15, some 0)] rfl (by kernel_rfl) (op_calls 58 #[(.tmp 14), (.tmp 15)] #[52, 54] (fun σ => #[.agg #[vk, vw], .agg #[.int .i64 d.slot, .int .i64 d.miner, .int .i64 d.var, .int .i64 d.parent, u]]) rfl rfl (fun _ _ => rfl) fun σ w' hx hg => ⟨by have h14 : σ.tmps.getD 14 undef = .agg #[vk, vw] := hg.1; have h15 : σ.tmps.getD 15 undef = .agg #[.int .i64 d.slot, .int .i64 d.miner, .int .i64 d.var, .int .i64 d.parent, u] := hg.2.1; simp only [List.map_toArray, List.map_cons, List.map_nil, Act.eval, h14, h15], retH (hRd.out w' (hX.trans (hxd.trans hx)))⟩) ?_
      refine LinL.step (s := (.val (.bool true))) [(16, some 0)] rfl (by kernel_rfl) (op_runs rfl fun σ w' hx hg => ⟨(.bool true), by have h16 : σ.tmps.getD 16 undef = .bool false := hg.1; unfold Runs execOp; simp [Act.eval, h16, go_sem], rfl⟩) ?_
      refine LinL.step (s := (.val (.bool true))) [(17, some 0)] rfl (by kernel_rfl) (op_copy 17 0 (.val (.bool true)) rfl (.inl rfl) rfl) ?_
      refine LinL.step (s := (.val (.agg #[vk, vw]))) [(1, none), (18, some 0)] rfl (by kernel_rfl) (op_yes (reads := [(1, none)]) 4 18 0 true rfl rfl rfl (op_runs rfl fun σ w' hx hg => ⟨_, runs_aload (ρ := σ.eval) (w := w') Try.stDoc (.tmp 1) rfl hg.1 (F1.ext hx) rfl, rfl⟩)) ?_
      refine LinL.step (s := (.sl (i64s wn))) [(19, some 0), (18, some 1)] rfl (by kernel_rfl) (op_yes (reads := [(19, some 0)]) 4 18 1 true rfl rfl rfl (op_calls 29 #[(.tmp 19)] #[52] (fun σ => #[.agg #[vk, vw]]) rfl rfl (fun _ _ => rfl) fun σ w' hx hg => ⟨by have h19 : σ.tmps.getD 19 undef = .agg #[vk, vw] := hg.1; simp only [List.map_toArray, List.map_cons, List.map_nil, Act.eval, h19], retSl (hWt.out w' (hX.trans (hxd.trans hx)))⟩)) ?_
      refine LinL.step (s := (.val (.pointer (some ⟨g5, 3, none⟩)))) [(5, none), (18, some 2)] rfl (by kernel_rfl) (op_yes (reads := [(5, none)]) 4 18 2 true rfl rfl rfl (op_runs rfl fun σ w' hx hg => ⟨_, runs_field (ρ := σ.eval) (w := w') Try.stBlk (.tmp 5) g5 3 rfl hg.1 (by omega), rfl⟩)) ?_
      refine LinL.step (s := (.val (.int .i64 d.parent))) [(21, some 0), (18, some 3)] rfl (by kernel_rfl) (op_yes (reads := [(21, some 0)]) 4 18 3 true rfl rfl rfl (op_runs rfl fun σ w' hx hg => ⟨_, runs_fload (ρ := σ.eval) (w := w') (.tmp 21) rfl hg.1 (agg_of (by kernel_rfl) _) (F5.ext hx) rfl, rfl⟩)) ?_
      refine LinL.step (s := (.val (.bool false))) [(20, some 2), (22, some 0), (18, some 4)] rfl (by kernel_rfl) (op_yes (reads := [(20, some 2), (22, some 0)]) 4 18 4 true rfl rfl rfl (op_calls 57 #[(.tmp 20), (.tmp 22)] #[32, 3] (fun σ => #[σ.tmps.getD 20 undef, .int .i64 d.parent]) rfl rfl (fun _ _ => rfl) fun σ w' hx hg => ⟨by have h22 : σ.tmps.getD 22 undef = .int .i64 d.parent := hg.2.1; simp only [List.map_toArray, List.map_cons, List.map_nil, Act.eval, h22], retH (hIn.out w' _ hg.1)⟩)) ?_
      refine LinL.step (s := (.val (.bool true))) [(23, some 0), (18, some 5)] rfl (by kernel_rfl) (op_yes (reads := [(23, some 0)]) 4 18 5 true rfl rfl rfl (op_runs rfl fun σ w' hx hg => ⟨(.bool true), by have h23 : σ.tmps.getD 23 undef = .bool false := hg.1; unfold Runs execOp; simp [Act.eval, h23, go_sem], rfl⟩)) ?_
      refine LinL.step (s := (.val (.bool true))) [(18, some 6), (24, some 0)] rfl (by kernel_rfl) (op_runs rfl fun σ w' hx hg => ⟨_, runs_pick_t (ρ := σ.eval) (w := w') (.tmp 18) (.tmp 24) (.const (.bool false)) rfl hg.1 hg.2.1, rfl⟩) ?_
      intro wN hxN
      simp only [Fin', List.reverse_cons, List.reverse_nil, List.nil_append, List.cons_append, List.drop_zero, List.take_succ_cons, List.take_zero]
      intro q20 hq20
      simp only [Act.put, List.setIfInBounds_toArray, List.set_cons_zero, List.set_cons_succ]
      replace ho := ho.ext (hxd.trans hxN)
      replace f1 := f1.ext (hxd.trans hxN)
      replace hX := hX.trans (hxd.trans hxN)
      replace f5 := f5.ext (hxd.trans hxN)
      clear hxd hxN F1 F5
      go_wp2_with ((first
        | ((with_reducible refine at_field ?_); refine w_field Try.stBlk _ _ _ rfl rfl rfl (by omega) ?_)
        | ((with_reducible refine at_load ?_); refine w_fload _ rfl rfl rfl f5 rfl (agg_of (by kernel_rfl)) ?_)
        | (go_at_call 62; refine (refInsert_any (n := d.parent) ho hR.out hl400.out).mono ?_; rintro e w4 ⟨v17, rfl, o17, hx⟩; replace hX := hX.trans hx; replace f1 := f1.ext hx; clear ho f5; have ho := o17.ints; clear hx o17)
        | fail) <;> (try simp only [Act.put, List.setIfInBounds_toArray, List.set_cons_zero, List.set_cons_succ]))
      go_roundw
      case rel => exact ⟨k + 1, _, by go_num, hlt'.out, hyes'.out, ho, hX, f1⟩
      case measure => have := hlt'.out; simp [RowKit.intOf]; omega

set_option maxRecDepth 100000 in
set_option maxHeartbeats 3200000 in
theorem refTip_any {w : World} {vk vw : Value} {K : List BlkD} (hU : TrS.Uq K) (hK0 : Recs 5 BlkR w vk K) (hlen : K.length ≤ 400) :
    Calls Try.prog 33 #[.agg #[vk, vw]] w fun e w' => e = .returned (.int .i64 (TrS.tip K)) ∧ Ext w w' := by
  refine calls_keep ?_
  have hK := hide_ hK0
  obtain ⟨N, hN⟩ : ∃ N, TrS.names K = N := ⟨_, rfl⟩
  have hNl : N.length ≤ 400 := by
    rw [← hN]
    have := rise_len_le (K.map BlkD.name)
    rw [List.length_map] at this
    exact Nat.le_trans this hlen
  have hN' := hide_ hN
  have hHt := hide_ (fun n w' (h : Ext w w') => refHeight_any (vw := vw) (n := n) hU (hK.out.ext BlkR.stays h))
  have htip := hide_ (show TrS.tip K = TrS.tipF K N 0 by rw [TrS.tip, hN])
  clear hK0 hN hU
  go_enter Try.func33, Try.ntmps33
  go_wp2_with ((first
    | ((with_reducible refine at_box ?_); refine w_box _ [vk, vw] rfl rfl rfl rfl ?_; intro g1 w1 hg1 hX f1)
    | ((with_reducible refine at_load ?_); refine w_aload Try.stDoc _ rfl rfl rfl f1 rfl ?_)
    | (go_at_call 39; refine (refNames_any (vw := vw) (hK.out.ext BlkR.stays hX) hlen).mono ?_; rintro e w4 ⟨v7, rfl, o7, hx⟩; rw [hN'.out] at o7; replace f1 := f1.ext hx; replace hX := hX.trans hx; clear hx)
    | ((with_reducible refine at_bi ?_); refine i_len _ rfl rfl (v := v7) rfl o7 ?_)
    | fail) <;> (try simp only [Act.put, List.setIfInBounds_toArray, List.set_cons_zero, List.set_cons_succ]))
  go_loopw [3, 9] (fun u3 i wr => ∃ (k : Nat) (best : Int), i = .int .i64 k ∧ k ≤ N.length ∧ u3 = .int .i64 best ∧ TrS.tipF K (N.take k) 0 = best ∧ Ext w wr ∧ Fs wr g1 [vk, vw] ∧ Ints wr v7 N) (fun _ i _ => N.length - (RowKit.intOf i).toNat)
  case atStart => exact ⟨0, 0, rfl, Nat.zero_le _, rfl, rfl, hX, f1, o7⟩
  case round =>
    clear hX o7 f1
    obtain ⟨k, best, rfl, hk, rfl, hb, hX, f1, o7⟩ := hrel
    by_cases hge : N.length ≤ k
    · obtain rfl : k = N.length := by omega
      have t2 : decide (N.length < N.length) = false := by simp
      rw [List.take_length] at hb
      have e := hide_ (show TrS.tip K = best by rw [htip.out, hb])
      clear hb hge
      go_wp2
      go_ret
      exact Keep.intro ⟨by rw [e.out]; rfl, hX⟩
    have hlt : k < N.length := by omega
    have t2 : decide (k < N.length) = true := by simpa using hlt
    obtain ⟨x, hx0⟩ : ∃ x, N[k] = x := ⟨_, rfl⟩
    have hstep := (show TrS.tipF K (N.take (k + 1)) 0 = if TrS.height K best < TrS.height K x then x else best by
      rw [List.take_add_one, List.getElem?_eq_getElem hlt, hx0, ← hb]
      unfold TrS.tipF
      rw [List.foldl_append]; rfl)
    obtain ⟨hx1, h1⟩ : ∃ h, TrS.height K x = h := ⟨_, rfl⟩
    obtain ⟨hb1, h2⟩ : ∃ h, TrS.height K best = h := ⟨_, rfl⟩
    rw [h1, h2] at hstep
    have hH1 := hide_ (h1 ▸ hHt.out x)
    have hH2 := hide_ (h2 ▸ hHt.out best)
    have hx0' := hide_ hx0
    have hlt' := hide_ hlt
    clear hge hx0 hb h1 h2
    cases c1 : decide (hb1 < hx1)
    · have hst := hide_ (hstep.trans (if_neg (of_decide_eq_false c1)))
      clear hstep
      go_wp2_with ((first
        | ((with_reducible refine at_idx ?_); refine i_idx _ _ k rfl rfl rfl o7 rfl hlt'.out ?_; intro ad had; rw [hx0'.out] at had)
        | fail) <;> (try simp only [Act.put, List.setIfInBounds_toArray, List.set_cons_zero, List.set_cons_succ]))
      refine wp_region_phx (by kernel_rfl) ?_; intro wd hxd; have F1 := f1.ext hxd
      refine Ph.rest 0 7 (by kernel_rfl) ?_
      refine LinL.step (s := (.val (.agg #[vk, vw]))) [(1, none)] rfl (by kernel_rfl) (op_runs rfl fun σ w' hx hg => ⟨_, runs_aload (ρ := σ.eval) (w := w') Try.stDoc (.tmp 1) rfl hg.1 (F1.ext hx) rfl, rfl⟩) ?_
      refine LinL.step (s := (.val (.int .i64 x))) [(5, none)] rfl (by kernel_rfl) (op_out 5 (.int .i64 x) rfl (.inl rfl) rfl) ?_
      refine LinL.step (s := (.val (.int .i64 hx1))) [(13, some 1), (14, some 0)] rfl (by kernel_rfl) (op_calls 63 #[(.tmp 13), (.tmp 14)] #[52, 3] (fun σ => #[.agg #[vk, vw], .int .i64 x]) rfl rfl (fun _ _ => rfl) fun σ w' hx hg => ⟨by have h13 : σ.tmps.getD 13 undef = .agg #[vk, vw] := hg.1; have h14 : σ.tmps.getD 14 undef = .int .i64 x := hg.2.1; simp only [List.map_toArray, List.map_cons, List.map_nil, Act.eval, h13, h14], retH (hH1.out w' (hX.trans (hxd.trans hx)))⟩) ?_
      refine LinL.step (s := (.val (.agg #[vk, vw]))) [(1, none)] rfl (by kernel_rfl) (op_runs rfl fun σ w' hx hg => ⟨_, runs_aload (ρ := σ.eval) (w := w') Try.stDoc (.tmp 1) rfl hg.1 (F1.ext hx) rfl, rfl⟩) ?_
      refine LinL.step (s := (.val (.int .i64 best))) [(3, none)] rfl (by kernel_rfl) (op_out 3 (.int .i64 best) rfl (.inl rfl) rfl) ?_
      refine LinL.step (s := (.val (.int .i64 hb1))) [(16, some 1), (17, some 0)] rfl (by kernel_rfl) (op_calls 63 #[(.tmp 16), (.tmp 17)] #[52, 3] (fun σ => #[.agg #[vk, vw], .int .i64 best]) rfl rfl (fun _ _ => rfl) fun σ w' hx hg => ⟨by have h16 : σ.tmps.getD 16 undef = .agg #[vk, vw] := hg.1; have h17 : σ.tmps.getD 17 undef = .int .i64 best := hg.2.1; simp only [List.map_toArray, List.map_cons, List.map_nil, Act.eval, h16, h17], retH (hH2.out w' (hX.trans (hxd.trans hx)))⟩) ?_
      refine LinL.step (s := (.val (.bool false))) [(15, some 3), (18, some 0)] rfl (by kernel_rfl) (op_runs rfl fun σ w' hx hg => ⟨(.bool false), by have h15 : σ.tmps.getD 15 undef = .int .i64 hx1 := hg.1; have h18 : σ.tmps.getD 18 undef = .int .i64 hb1 := hg.2.1; unfold Runs execOp; simp [Act.eval, h15, h18, go_sem, c1], rfl⟩) ?_
      intro wN hxN
      simp only [Fin', List.reverse_cons, List.reverse_nil, List.nil_append, List.cons_append, List.drop_zero, List.take_succ_cons, List.take_zero]
      simp only [Act.put, List.setIfInBounds_toArray, List.set_cons_zero, List.set_cons_succ]
      replace o7 := o7.ext (hxd.trans hxN)
      replace f1 := f1.ext (hxd.trans hxN)
      replace hX := hX.trans (hxd.trans hxN)
      clear hxd hxN F1
      go_wp2
      go_roundw
      case rel => exact ⟨k + 1, best, by go_num, hlt'.out, rfl, hst.out, hX, f1, o7⟩
      case measure => have := hlt'.out; simp [RowKit.intOf]; omega
    · have hst := hide_ (hstep.trans (if_pos (of_decide_eq_true c1)))
      clear hstep
      go_wp2_with ((first
        | ((with_reducible refine at_idx ?_); refine i_idx _ _ k rfl rfl rfl o7 rfl hlt'.out ?_; intro ad had; rw [hx0'.out] at had)
        | fail) <;> (try simp only [Act.put, List.setIfInBounds_toArray, List.set_cons_zero, List.set_cons_succ]))
      refine wp_region_phx (by kernel_rfl) ?_; intro wd hxd; have F1 := f1.ext hxd
      refine Ph.rest 0 7 (by kernel_rfl) ?_
      refine LinL.step (s := (.val (.agg #[vk, vw]))) [(1, none)] rfl (by kernel_rfl) (op_runs rfl fun σ w' hx hg => ⟨_, runs_aload (ρ := σ.eval) (w := w') Try.stDoc (.tmp 1) rfl hg.1 (F1.ext hx) rfl, rfl⟩) ?_
      refine LinL.step (s := (.val (.int .i64 x))) [(5, none)] rfl (by kernel_rfl) (op_out 5 (.int .i64 x) rfl (.inl rfl) rfl) ?_
      refine LinL.step (s := (.val (.int .i64 hx1))) [(13, some 1), (14, some 0)] rfl (by kernel_rfl) (op_calls 63 #[(.tmp 13), (.tmp 14)] #[52, 3] (fun σ => #[.agg #[vk, vw], .int .i64 x]) rfl rfl (fun _ _ => rfl) fun σ w' hx hg => ⟨by have h13 : σ.tmps.getD 13 undef = .agg #[vk, vw] := hg.1; have h14 : σ.tmps.getD 14 undef = .int .i64 x := hg.2.1; simp only [List.map_toArray, List.map_cons, List.map_nil, Act.eval, h13, h14], retH (hH1.out w' (hX.trans (hxd.trans hx)))⟩) ?_
      refine LinL.step (s := (.val (.agg #[vk, vw]))) [(1, none)] rfl (by kernel_rfl) (op_runs rfl fun σ w' hx hg => ⟨_, runs_aload (ρ := σ.eval) (w := w') Try.stDoc (.tmp 1) rfl hg.1 (F1.ext hx) rfl, rfl⟩) ?_
      refine LinL.step (s := (.val (.int .i64 best))) [(3, none)] rfl (by kernel_rfl) (op_out 3 (.int .i64 best) rfl (.inl rfl) rfl) ?_
      refine LinL.step (s := (.val (.int .i64 hb1))) [(16, some 1), (17, some 0)] rfl (by kernel_rfl) (op_calls 63 #[(.tmp 16), (.tmp 17)] #[52, 3] (fun σ => #[.agg #[vk, vw], .int .i64 best]) rfl rfl (fun _ _ => rfl) fun σ w' hx hg => ⟨by have h16 : σ.tmps.getD 16 undef = .agg #[vk, vw] := hg.1; have h17 : σ.tmps.getD 17 undef = .int .i64 best := hg.2.1; simp only [List.map_toArray, List.map_cons, List.map_nil, Act.eval, h16, h17], retH (hH2.out w' (hX.trans (hxd.trans hx)))⟩) ?_
      refine LinL.step (s := (.val (.bool true))) [(15, some 3), (18, some 0)] rfl (by kernel_rfl) (op_runs rfl fun σ w' hx hg => ⟨(.bool true), by have h15 : σ.tmps.getD 15 undef = .int .i64 hx1 := hg.1; have h18 : σ.tmps.getD 18 undef = .int .i64 hb1 := hg.2.1; unfold Runs execOp; simp [Act.eval, h15, h18, go_sem, c1], rfl⟩) ?_
      intro wN hxN
      simp only [Fin', List.reverse_cons, List.reverse_nil, List.nil_append, List.cons_append, List.drop_zero, List.take_succ_cons, List.take_zero]
      simp only [Act.put, List.setIfInBounds_toArray, List.set_cons_zero, List.set_cons_succ]
      replace o7 := o7.ext (hxd.trans hxN)
      replace f1 := f1.ext (hxd.trans hxN)
      replace hX := hX.trans (hxd.trans hxN)
      clear hxd hxN F1
      go_wp2
      go_roundw
      case rel => exact ⟨k + 1, x, by go_num, hlt'.out, rfl, hst.out, hX, f1, o7⟩
      case measure => have := hlt'.out; simp [RowKit.intOf]; omega

theorem w_ito {ops : Array Oper} {rest : List Oper} {o : Oper} {a : Act} {Q : Exit → Act → World → Prop} {w : World} {v : Value} {l : List Int} (x y' : Operand) (j : Nat) (hgd : o.guard = none) (ho : o.op = .slice 32 x none (some y') none) (hv : a.eval x = v) (h : Ints w v l) {z : Int} (hy' : a.eval y' = .int .i64 z) (hz : z = (j : Nat)) (hj : j ≤ l.length)
    (k : ∀ v', Ints w v' (l.take j) → wpList Try.prog ops Q rest (a.put o.dst v') w) : wpList Try.prog ops Q (o :: rest) a w := by
  subst hz
  refine w_to Try.elI x y' j hgd ho hv h hy' (by rw [i64s_length]; exact hj) fun v' h' => k v' ?_
  have e : i64s (l.take j) = (i64s l).take j := by simp [i64s, List.map_take]
  unfold Ints; rw [e]; exact h'

end Go.Proofs.Ytdacclcaopmalaa
