/- The statement BlockCuts: a block's bytes, cut off anywhere, or with more behind, are no block's; a child of a block that is no later than it can't be. No condition. -/
import Derived.Test.YtcjmcnepfnhnlaaBApart
namespace Go.Proofs.Ytcjmcnepfnhnlaa
open Go.RowKit Go.ChangeShapes Go.WideShapes Go.ChangeAt

theorem rightR {w : World} {u : Value} {b : BlkD} {r : Bool} (hu : Recs 2 TxR w u b.txs) (hp : I64 b.parent) (hr : decide b.Right = r) : Calls Try.prog 14 #[.agg #[.int .i64 b.slot, .int .i64 b.miner, .int .i64 b.var, .int .i64 b.parent, u]] w fun e w' => ∃ v', e = .returned v' ∧ Ext w w' ∧ Sp.p (.val (.bool r)) v' w' := by
  have h := BRight_any hu hp
  rw [hr] at h; exact retR h

set_option maxRecDepth 100000 in
set_option maxHeartbeats 6400000 in
theorem blockCuts_law (row : List Value) (b : BlkD) (cut s : Int) (W : World) (hb : BlkR W row b) (_hcut : I64 cut) (_hs : I64 s) :
    Calls Try.prog 9 #[.agg row.toArray, .int .i64 cut, .int .i64 s] W fun e w' => e = .returned (.bool true) ∧ Ext W w' := by
  obtain ⟨⟨u, rfl, r1⟩, hraw⟩ := hb
  refine calls_keep ?_
  have hp := hide_ (show I64 b.parent from hraw.parent)
  replace r1 := hide_ r1
  clear hraw
  by_cases h1 : b.Right
  rotate_left
  · have E1 := hide_ (show bE b = 71 from if_neg h1)
    have E2 := hide_ (show bB b = [] from if_neg h1)
    have hnm := hide_ (show b.name = 0 from if_neg h1)
    clear h1
    go_enter Try.func9, Try.ntmps9
    go_wp2_with ((first
      | ((with_reducible refine at_box ?_); refine w_box _ [.int .i64 b.slot, .int .i64 b.miner, .int .i64 b.var, .int .i64 b.parent, u] rfl rfl rfl rfl ?_; intro g3 w1 hg3 hX f3)
      | (go_at_call 11; refine (alive_any _).mono ?_; rintro e w2 ⟨rfl, hx⟩; replace f3 := f3.ext hx; replace hX := hX.trans hx; clear hx)
      | (go_at_call 12; refine (BBytes_any (b := b) (r1.out.ext TxR.stays hX) hp.out).mono ?_; rintro e w3 ⟨v7, rfl, o7, hx⟩; rw [E1.out]; rw [E2.out] at o7; have b7 := o7.byt; replace f3 := f3.ext hx; replace hX := hX.trans hx; clear hx o7)
      | (go_at_call 16; refine (BName_any (b := b) (r1.out.ext TxR.stays hX) hp.out).mono ?_; rintro e w4 ⟨rfl, hx⟩; rw [hnm.out]; replace hX := hX.trans hx; clear hx)
      | ((with_reducible refine at_bi ?_); (try refine w_yes _ _ _ rfl rfl rfl ?_); refine b_len _ rfl rfl (v := v7) rfl b7 ?_)
      | ((with_reducible refine at_load ?_); (try refine w_yes _ _ _ rfl rfl rfl ?_); refine w_aload Try.stBlk (.tmp 3) rfl rfl rfl f3 rfl ?_)
      | fail) <;> (try simp only [Act.put, List.setIfInBounds_toArray, List.set_cons_zero, List.set_cons_succ]))
    go_ret
    exact Keep.intro ⟨rfl, hX⟩
  have E1 := hide_ (show bE b = 0 from if_pos h1)
  obtain ⟨L, hL⟩ : ∃ L, b.bytes = L := ⟨_, rfl⟩
  have E2 := hide_ (show bB b = L from hL ▸ if_pos h1)
  have hlen : L.length ≤ 110 := hL ▸ BlkD.bytes_len h1
  have hL256 : ∀ y ∈ L, y < 256 := hL ▸ b.bytes_lt
  have hnm := hide_ (show b.name = b.nm from if_pos h1)
  have hpn := hide_ h1.nm_i64
  have hchild := hide_ (child_right h1 s)
  have hbc := hide_ (show ([] : List Nat).length + L.length ≤ 140737488355328 from by simp; omega)
  have hbc2 := hide_ (show L.length + [1].length ≤ 140737488355328 from by simp; omega)
  have h256 := hide_ (show ∀ y ∈ L ++ [1], y < 256 from fun y hy => (List.mem_append.1 hy).elim (hL256 y) (fun h => by simp at h; omega))
  have hbl := hide_ (show (L ++ [1]).length ≤ 140737488355328 from by simp; omega)
  have hno1 := hide_ (show rdBlk (L ++ [1]) = none from rdBlk_none h256.out (hL ▸ blk_more h1 (by simp)))
  have hcutno := hide_ (show ∀ c, c < L.length → rdBlk (L.take c) = none from fun c hc => rdBlk_none (fun y hy => hL256 y (List.mem_of_mem_take hy)) (by subst hL; exact blk_cut h1 hc))
  have h256c := hide_ (show ∀ c, ∀ y ∈ L.take c, y < 256 from fun c y hy => hL256 y (List.mem_of_mem_take hy))
  clear h1 hL256 hL
  go_enter Try.func9, Try.ntmps9
  by_cases hc0 : cut < 0
  · have t1 : decide (0 ≤ cut) = false := by simpa using hc0
    clear hc0
    go_wp2_with ((first
      | ((with_reducible refine at_box ?_); refine w_box _ [.int .i64 b.slot, .int .i64 b.miner, .int .i64 b.var, .int .i64 b.parent, u] rfl rfl rfl rfl ?_; intro g3 w1 hg3 hX f3)
      | (go_at_call 11; refine (alive_any _).mono ?_; rintro e w2 ⟨rfl, hx⟩; replace f3 := f3.ext hx; replace hX := hX.trans hx; clear hx)
      | (go_at_call 12; refine (BBytes_any (b := b) (r1.out.ext TxR.stays hX) hp.out).mono ?_; rintro e w3 ⟨v7, rfl, o7, hx⟩; rw [E1.out]; rw [E2.out] at o7; have b7 := o7.byt; replace f3 := f3.ext hx; replace hX := hX.trans hx; clear hx o7)
      | ((with_reducible refine at_lit ?_); refine w_bempty (o := ⟨some 32, _, _, _, _, _⟩) rfl rfl ?_; intro v32 wn B hB1 hBl hxn o1; have hxb := hxn; clear hxn)
      | ((with_reducible refine at_bi ?_); refine appb (o := ⟨some 34, _, _, _, _, _⟩) _ _ rfl rfl rfl rfl o1 (b7.ext hxb) hbc.out hBl ?_; intro v34 wa o2 hba hga; rw [List.nil_append] at o2; replace hxb := hxb.trans' (hba.mono hB1); replace hBl := Nat.le_trans hBl hba.size; clear o1 hba hga)
      | ((with_reducible refine at_lit ?_); refine w_bytes [1] (o := ⟨some 35, _, _, _, _, _⟩) rfl rfl rfl rfl (by omega) ?_; intro v35 wb hx35 o35; have b35 := o35.byt; replace o2 := o2.ext hx35; replace hxb := hxb.trans hx35; replace hBl := Nat.le_trans hBl hx35.size; clear hx35 o35)
      | ((with_reducible refine at_bi ?_); refine appb (o := ⟨some 36, _, _, _, _, _⟩) _ _ rfl rfl rfl rfl o2 b35 hbc2.out hBl ?_; intro v36 wc o3 hbb hgb; have hx := hxb.trans' (hbb.mono hB1); have b36 := o3.byt; clear o2 b35 hbb hgb hxb hBl hB1 o3; replace f3 := f3.ext hx; replace b7 := b7.ext hx; replace hX := hX.trans hx; clear hx)
      | (go_at_call 10; refine (BRead_no hno1.out h256.out hbl.out b36).mono ?_; rintro e w5 ⟨u9, rfl, hx, o9⟩; have c9 := o9.recs.one'; clear b36 o9; replace f3 := f3.ext hx; replace b7 := b7.ext hx; replace hX := hX.trans hx; clear hx)
      | ((with_reducible refine at_alloc ?_); refine w_alloc (o := ⟨some 9, _, _, _, _, _⟩) Try.stBlk rfl rfl ?_; intro g9 w6 hg9 hx9 f9)
      | ((with_reducible refine at_store ?_); refine w_astore Try.stBlk (us := [.int .i64 0, .int .i64 0, .int .i64 0, .int .i64 0, u9]) _ _ rfl rfl rfl rfl rfl f9 rfl rfl (blk_one c9) ?_; intro w7 hm f9'; have hx := hm.after hx9 (fun i e => e ▸ hg9); clear hm f9' f9 hx9 hg9; replace f3 := f3.ext hx; replace b7 := b7.ext hx; replace hX := hX.trans hx; clear hx)
      | ((with_reducible refine at_bi ?_); (try refine w_yes _ _ _ rfl rfl rfl ?_); refine b_len _ rfl rfl (v := v7) rfl b7 ?_)
      | ((with_reducible refine at_load ?_); (try refine w_yes _ _ _ rfl rfl rfl ?_); refine w_aload Try.stBlk (.tmp 3) rfl rfl rfl f3 rfl ?_)
      | fail) <;> (try simp only [Act.put, List.setIfInBounds_toArray, List.set_cons_zero, List.set_cons_succ]))
    refine wp_region_phx (by kernel_rfl) ?_; intro wd hxd; replace f3 := f3.ext hxd; replace hX := hX.trans hxd; have s1 := r1.out.ext TxR.stays hX
    refine Ph.gate 0 7 (by kernel_rfl) ?_
    refine LinL.step (s := (.val (.int .i64 s))) [(2, none)] rfl (by kernel_rfl) (op_out 2 (.int .i64 s) rfl (.inl rfl) rfl) ?_
    refine LinL.step (s := (.val (.pointer (some ⟨g3, 1, none⟩)))) [(3, none)] rfl (by kernel_rfl) (op_runs rfl fun σ w' hx hg => ⟨_, runs_field (ρ := σ.eval) (w := w') Try.stBlk (.tmp 3) g3 1 rfl hg.1 (by omega), rfl⟩) ?_
    refine LinL.step (s := (.val (.int .i64 b.miner))) [(62, some 0)] rfl (by kernel_rfl) (op_runs rfl fun σ w' hx hg => ⟨_, runs_fload (ρ := σ.eval) (w := w') (.tmp 62) rfl hg.1 (agg_of (by kernel_rfl) _) (f3.ext hx) rfl, rfl⟩) ?_
    refine LinL.step (s := (.val (.agg #[.int .i64 b.slot, .int .i64 b.miner, .int .i64 b.var, .int .i64 b.parent, u]))) [(3, none)] rfl (by kernel_rfl) (op_runs rfl fun σ w' hx hg => ⟨_, runs_aload (ρ := σ.eval) (w := w') Try.stBlk (.tmp 3) rfl hg.1 (f3.ext hx) rfl, rfl⟩) ?_
    refine LinL.step (s := (.val (.int .i64 b.nm))) [(64, some 0)] rfl (by kernel_rfl) (op_calls 16 #[(.tmp 64)] #[24] (fun σ => #[.agg #[.int .i64 b.slot, .int .i64 b.miner, .int .i64 b.var, .int .i64 b.parent, u]]) rfl rfl (fun _ _ => rfl) fun σ w' hx hg => ⟨by have h64 : σ.tmps.getD 64 undef = .agg #[.int .i64 b.slot, .int .i64 b.miner, .int .i64 b.var, .int .i64 b.parent, u] := hg.1; simp only [List.map_toArray, List.map_cons, List.map_nil, Act.eval, h64], nameR (b := b) (s1.ext TxR.stays hx) hp.out hnm.out⟩) ?_
    refine LinL.step (s := (.val (.agg #[.int .i64 s, .int .i64 b.miner, .int .i64 0, .int .i64 b.nm, .slice none 0 0]))) [(61, some 4), (63, some 2), (65, some 0)] rfl (by kernel_rfl) (op_runs rfl fun σ w' hx hg => ⟨_, runs_sbuild (ρ := σ.eval) (w := w') Try.stBlk [.int .i64 s, .int .i64 b.miner, .int .i64 0, .int .i64 b.nm, .slice none 0 0] (ps := #[(0, .tmp 61), (1, .tmp 63), (3, .tmp 65)]) rfl (by have h61 : σ.tmps.getD 61 undef = .int .i64 s := hg.1; have h63 : σ.tmps.getD 63 undef = .int .i64 b.miner := hg.2.1; have h65 : σ.tmps.getD 65 undef = .int .i64 b.nm := hg.2.2.1; simp only [List.map_cons, List.map_nil, Act.eval, h61, h63, h65, List.foldl_cons, List.foldl_nil, List.set_cons_zero, List.set_cons_succ]) (by have h61 : σ.tmps.getD 61 undef = .int .i64 s := hg.1; have h63 : σ.tmps.getD 63 undef = .int .i64 b.miner := hg.2.1; have h65 : σ.tmps.getD 65 undef = .int .i64 b.nm := hg.2.2.1; intro p hp; simp at hp; rcases hp with rfl | rfl | rfl; exact ⟨by decide, by show (σ.tmps.getD 61 undef).cells = #[σ.tmps.getD 61 undef]; rw [h61]; exact rfl⟩; exact ⟨by decide, by show (σ.tmps.getD 63 undef).cells = #[σ.tmps.getD 63 undef]; rw [h63]; exact rfl⟩; exact ⟨by decide, by show (σ.tmps.getD 65 undef).cells = #[σ.tmps.getD 65 undef]; rw [h65]; exact rfl⟩), rfl⟩) ?_
    refine LinL.step (s := (Sp.fs wd.heap.size [.int .i64 0, .int .i64 0, .int .i64 0, .int .i64 0, .slice none 0 0])) [] rfl (by kernel_rfl) (op_alloc Try.stBlk (Nat.le_refl _) rfl rfl) ?_
    intro wN hxN
    simp only [Fin', Sp.fs, List.reverse_cons, List.reverse_nil, List.nil_append, List.cons_append, List.drop_zero, List.take_succ_cons, List.take_zero]
    intro q13 hq13
    simp only [Act.put, List.setIfInBounds_toArray, List.set_cons_zero, List.set_cons_succ]
    obtain ⟨g13, rfl, hg13, f13⟩ := hq13
    refine wpOp_of_list rfl ?_
    refine w_astore Try.stBlk (us := [.int .i64 s, .int .i64 b.miner, .int .i64 0, .int .i64 b.nm, .slice none 0 0]) _ _ rfl rfl rfl rfl rfl f13 rfl rfl (blk_one rfl) ?_; intro w8 hm8 f13'; replace f13 := f13'; clear f13'
    have hx8 : Ext wd w8 := hm8.after hxN (fun j e => e ▸ hg13)
    replace f3 := f3.ext hx8; replace hX := hX.trans hx8
    show Ph Try.prog _ _ 8 _ _
    refine Ph.rest 8 0 (by kernel_rfl) ?_
    intro wN2 hxN2
    simp only [Fin', List.reverse_nil, List.drop_zero, List.drop_succ_cons, List.take_zero]
    replace f13 := f13.ext hxN2; replace f3 := f3.ext hxN2; replace hX := hX.trans hxN2
    clear hxN2 hm8 hx8 hg13 hxN hxd s1
    by_cases k0 : b.slot < s
    rotate_left
    · have hch := hide_ (decide_eq_false fun h => k0 (hchild.out.1 h).1)
      go_wp2
      refine wp_region_phx (by kernel_rfl) ?_; intro wd hxd; replace f3 := f3.ext hxd; replace f13 := f13.ext hxd; replace hX := hX.trans hxd
      refine Ph.rest 0 12 (by kernel_rfl) ?_
      refine LinL.step (s := (.val (.agg #[.int .i64 s, .int .i64 b.miner, .int .i64 0, .int .i64 b.nm, .slice none 0 0]))) [(13, none)] rfl (by kernel_rfl) (op_runs rfl fun σ w' hx hg => ⟨_, runs_aload (ρ := σ.eval) (w := w') Try.stBlk (.tmp 13) rfl hg.1 (f13.ext hx) rfl, rfl⟩) ?_
      refine LinL.step (s := (.val (.bool false))) [(67, some 0)] rfl (by kernel_rfl) (op_calls 14 #[(.tmp 67)] #[24] (fun σ => #[.agg #[.int .i64 s, .int .i64 b.miner, .int .i64 0, .int .i64 b.nm, .slice none 0 0]]) rfl rfl (fun _ _ => rfl) fun σ w' hx hg => ⟨by have h67 : σ.tmps.getD 67 undef = .agg #[.int .i64 s, .int .i64 b.miner, .int .i64 0, .int .i64 b.nm, .slice none 0 0] := hg.1; simp only [List.map_toArray, List.map_cons, List.map_nil, Act.eval, h67], rightR (b := ⟨s, b.miner, 0, b.nm, []⟩) (Recs.nilT _) hpn.out hch.out⟩) ?_
      refine LinL.step (s := (.val (.int .i64 s))) [(2, none)] rfl (by kernel_rfl) (op_out 2 (.int .i64 s) rfl (.inl rfl) rfl) ?_
      refine LinL.step (s := (.val (.pointer (some ⟨g3, 0, none⟩)))) [(3, none)] rfl (by kernel_rfl) (op_runs rfl fun σ w' hx hg => ⟨_, runs_field (ρ := σ.eval) (w := w') Try.stBlk (.tmp 3) g3 0 rfl hg.1 (by omega), rfl⟩) ?_
      refine LinL.step (s := (.val (.int .i64 b.slot))) [(70, some 0)] rfl (by kernel_rfl) (op_runs rfl fun σ w' hx hg => ⟨_, runs_fload (ρ := σ.eval) (w := w') (.tmp 70) rfl hg.1 (agg_of (by kernel_rfl) _) (f3.ext hx) rfl, rfl⟩) ?_
      refine LinL.step (s := (.val (.bool false))) [(69, some 2), (71, some 0)] rfl (by kernel_rfl) (op_runs rfl fun σ w' hx hg => ⟨(.bool false), by have h69 : σ.tmps.getD 69 undef = .int .i64 s := hg.1; have h71 : σ.tmps.getD 71 undef = .int .i64 b.slot := hg.2.1; unfold Runs execOp; simp [Act.eval, h69, h71, go_sem, k0], rfl⟩) ?_
      refine LinL.step (s := (.val (.bool false))) [(72, some 0)] rfl (by kernel_rfl) (op_copy 72 0 (.val (.bool false)) rfl (.inl rfl) rfl) ?_
      refine LinL.step (s := .val undef) [(2, none), (73, some 0)] rfl (by kernel_rfl) (op_no (reads := [(2, none)]) 6 73 0 true rfl rfl rfl) ?_
      refine LinL.step (s := .val undef) [(74, some 0), (73, some 1)] rfl (by kernel_rfl) (op_no (reads := [(74, some 0)]) 6 73 1 true rfl rfl rfl) ?_
      refine LinL.step (s := (.val (.bool false))) [(73, some 2), (75, some 0)] rfl (by kernel_rfl) (op_runs rfl fun σ w' hx hg => ⟨_, runs_pick_f (ρ := σ.eval) (w := w') (.tmp 73) (.tmp 75) (.const (.bool false)) rfl hg.1 rfl, rfl⟩) ?_
      refine LinL.step (s := (.val (.bool true))) [(68, some 8), (76, some 0)] rfl (by kernel_rfl) (op_runs rfl fun σ w' hx hg => ⟨(.bool true), by have h68 : σ.tmps.getD 68 undef = .bool false := hg.1; have h76 : σ.tmps.getD 76 undef = .bool false := hg.2.1; unfold Runs execOp; simp [Act.eval, h68, h76, go_sem], rfl⟩) ?_
      refine LinL.step (s := (.val (.bool true))) [(77, some 0)] rfl (by kernel_rfl) (op_copy 77 0 (.val (.bool true)) rfl (.inr rfl) rfl) ?_
      intro wN hxN
      simp only [Fin', List.reverse_cons, List.reverse_nil, List.nil_append, List.cons_append, List.drop_zero, List.take_succ_cons, List.take_zero]
      simp only [Act.put, List.setIfInBounds_toArray, List.set_cons_zero, List.set_cons_succ]
      replace hX := hX.trans hxN
      go_wp2
      go_ret
      exact Keep.intro ⟨rfl, hX⟩
    by_cases k1 : s ≤ 4095
    · have hch := hide_ (decide_eq_true (hchild.out.2 ⟨k0, k1⟩))
      go_wp2
      refine wp_region_phx (by kernel_rfl) ?_; intro wd hxd; replace f3 := f3.ext hxd; replace f13 := f13.ext hxd; replace hX := hX.trans hxd
      refine Ph.rest 0 12 (by kernel_rfl) ?_
      refine LinL.step (s := (.val (.agg #[.int .i64 s, .int .i64 b.miner, .int .i64 0, .int .i64 b.nm, .slice none 0 0]))) [(13, none)] rfl (by kernel_rfl) (op_runs rfl fun σ w' hx hg => ⟨_, runs_aload (ρ := σ.eval) (w := w') Try.stBlk (.tmp 13) rfl hg.1 (f13.ext hx) rfl, rfl⟩) ?_
      refine LinL.step (s := (.val (.bool true))) [(67, some 0)] rfl (by kernel_rfl) (op_calls 14 #[(.tmp 67)] #[24] (fun σ => #[.agg #[.int .i64 s, .int .i64 b.miner, .int .i64 0, .int .i64 b.nm, .slice none 0 0]]) rfl rfl (fun _ _ => rfl) fun σ w' hx hg => ⟨by have h67 : σ.tmps.getD 67 undef = .agg #[.int .i64 s, .int .i64 b.miner, .int .i64 0, .int .i64 b.nm, .slice none 0 0] := hg.1; simp only [List.map_toArray, List.map_cons, List.map_nil, Act.eval, h67], rightR (b := ⟨s, b.miner, 0, b.nm, []⟩) (Recs.nilT _) hpn.out hch.out⟩) ?_
      refine LinL.step (s := (.val (.int .i64 s))) [(2, none)] rfl (by kernel_rfl) (op_out 2 (.int .i64 s) rfl (.inl rfl) rfl) ?_
      refine LinL.step (s := (.val (.pointer (some ⟨g3, 0, none⟩)))) [(3, none)] rfl (by kernel_rfl) (op_runs rfl fun σ w' hx hg => ⟨_, runs_field (ρ := σ.eval) (w := w') Try.stBlk (.tmp 3) g3 0 rfl hg.1 (by omega), rfl⟩) ?_
      refine LinL.step (s := (.val (.int .i64 b.slot))) [(70, some 0)] rfl (by kernel_rfl) (op_runs rfl fun σ w' hx hg => ⟨_, runs_fload (ρ := σ.eval) (w := w') (.tmp 70) rfl hg.1 (agg_of (by kernel_rfl) _) (f3.ext hx) rfl, rfl⟩) ?_
      refine LinL.step (s := (.val (.bool true))) [(69, some 2), (71, some 0)] rfl (by kernel_rfl) (op_runs rfl fun σ w' hx hg => ⟨(.bool true), by have h69 : σ.tmps.getD 69 undef = .int .i64 s := hg.1; have h71 : σ.tmps.getD 71 undef = .int .i64 b.slot := hg.2.1; unfold Runs execOp; simp [Act.eval, h69, h71, go_sem, k0], rfl⟩) ?_
      refine LinL.step (s := (.val (.bool true))) [(72, some 0)] rfl (by kernel_rfl) (op_copy 72 0 (.val (.bool true)) rfl (.inl rfl) rfl) ?_
      refine LinL.step (s := (.val (.int .i64 s))) [(2, none), (73, some 0)] rfl (by kernel_rfl) (op_yes (reads := [(2, none)]) 6 73 0 true rfl rfl rfl (op_out 2 (.int .i64 s) rfl (.inl rfl) rfl)) ?_
      refine LinL.step (s := (.val (.bool true))) [(74, some 0), (73, some 1)] rfl (by kernel_rfl) (op_yes (reads := [(74, some 0)]) 6 73 1 true rfl rfl rfl (op_runs rfl fun σ w' hx hg => ⟨(.bool true), by have h74 : σ.tmps.getD 74 undef = .int .i64 s := hg.1; unfold Runs execOp; simp [Act.eval, h74, go_sem, k1], rfl⟩)) ?_
      refine LinL.step (s := (.val (.bool true))) [(73, some 2), (75, some 0)] rfl (by kernel_rfl) (op_runs rfl fun σ w' hx hg => ⟨_, runs_pick_t (ρ := σ.eval) (w := w') (.tmp 73) (.tmp 75) (.const (.bool false)) rfl hg.1 hg.2.1, rfl⟩) ?_
      refine LinL.step (s := (.val (.bool true))) [(68, some 8), (76, some 0)] rfl (by kernel_rfl) (op_runs rfl fun σ w' hx hg => ⟨(.bool true), by have h68 : σ.tmps.getD 68 undef = .bool true := hg.1; have h76 : σ.tmps.getD 76 undef = .bool true := hg.2.1; unfold Runs execOp; simp [Act.eval, h68, h76, go_sem], rfl⟩) ?_
      refine LinL.step (s := (.val (.bool true))) [(77, some 0)] rfl (by kernel_rfl) (op_copy 77 0 (.val (.bool true)) rfl (.inr rfl) rfl) ?_
      intro wN hxN
      simp only [Fin', List.reverse_cons, List.reverse_nil, List.nil_append, List.cons_append, List.drop_zero, List.take_succ_cons, List.take_zero]
      simp only [Act.put, List.setIfInBounds_toArray, List.set_cons_zero, List.set_cons_succ]
      replace hX := hX.trans hxN
      go_wp2
      go_ret
      exact Keep.intro ⟨rfl, hX⟩
    · have hch := hide_ (decide_eq_false fun h => k1 (hchild.out.1 h).2)
      go_wp2
      refine wp_region_phx (by kernel_rfl) ?_; intro wd hxd; replace f3 := f3.ext hxd; replace f13 := f13.ext hxd; replace hX := hX.trans hxd
      refine Ph.rest 0 12 (by kernel_rfl) ?_
      refine LinL.step (s := (.val (.agg #[.int .i64 s, .int .i64 b.miner, .int .i64 0, .int .i64 b.nm, .slice none 0 0]))) [(13, none)] rfl (by kernel_rfl) (op_runs rfl fun σ w' hx hg => ⟨_, runs_aload (ρ := σ.eval) (w := w') Try.stBlk (.tmp 13) rfl hg.1 (f13.ext hx) rfl, rfl⟩) ?_
      refine LinL.step (s := (.val (.bool false))) [(67, some 0)] rfl (by kernel_rfl) (op_calls 14 #[(.tmp 67)] #[24] (fun σ => #[.agg #[.int .i64 s, .int .i64 b.miner, .int .i64 0, .int .i64 b.nm, .slice none 0 0]]) rfl rfl (fun _ _ => rfl) fun σ w' hx hg => ⟨by have h67 : σ.tmps.getD 67 undef = .agg #[.int .i64 s, .int .i64 b.miner, .int .i64 0, .int .i64 b.nm, .slice none 0 0] := hg.1; simp only [List.map_toArray, List.map_cons, List.map_nil, Act.eval, h67], rightR (b := ⟨s, b.miner, 0, b.nm, []⟩) (Recs.nilT _) hpn.out hch.out⟩) ?_
      refine LinL.step (s := (.val (.int .i64 s))) [(2, none)] rfl (by kernel_rfl) (op_out 2 (.int .i64 s) rfl (.inl rfl) rfl) ?_
      refine LinL.step (s := (.val (.pointer (some ⟨g3, 0, none⟩)))) [(3, none)] rfl (by kernel_rfl) (op_runs rfl fun σ w' hx hg => ⟨_, runs_field (ρ := σ.eval) (w := w') Try.stBlk (.tmp 3) g3 0 rfl hg.1 (by omega), rfl⟩) ?_
      refine LinL.step (s := (.val (.int .i64 b.slot))) [(70, some 0)] rfl (by kernel_rfl) (op_runs rfl fun σ w' hx hg => ⟨_, runs_fload (ρ := σ.eval) (w := w') (.tmp 70) rfl hg.1 (agg_of (by kernel_rfl) _) (f3.ext hx) rfl, rfl⟩) ?_
      refine LinL.step (s := (.val (.bool true))) [(69, some 2), (71, some 0)] rfl (by kernel_rfl) (op_runs rfl fun σ w' hx hg => ⟨(.bool true), by have h69 : σ.tmps.getD 69 undef = .int .i64 s := hg.1; have h71 : σ.tmps.getD 71 undef = .int .i64 b.slot := hg.2.1; unfold Runs execOp; simp [Act.eval, h69, h71, go_sem, k0], rfl⟩) ?_
      refine LinL.step (s := (.val (.bool true))) [(72, some 0)] rfl (by kernel_rfl) (op_copy 72 0 (.val (.bool true)) rfl (.inl rfl) rfl) ?_
      refine LinL.step (s := (.val (.int .i64 s))) [(2, none), (73, some 0)] rfl (by kernel_rfl) (op_yes (reads := [(2, none)]) 6 73 0 true rfl rfl rfl (op_out 2 (.int .i64 s) rfl (.inl rfl) rfl)) ?_
      refine LinL.step (s := (.val (.bool false))) [(74, some 0), (73, some 1)] rfl (by kernel_rfl) (op_yes (reads := [(74, some 0)]) 6 73 1 true rfl rfl rfl (op_runs rfl fun σ w' hx hg => ⟨(.bool false), by have h74 : σ.tmps.getD 74 undef = .int .i64 s := hg.1; unfold Runs execOp; simp [Act.eval, h74, go_sem, k1], rfl⟩)) ?_
      refine LinL.step (s := (.val (.bool false))) [(73, some 2), (75, some 0)] rfl (by kernel_rfl) (op_runs rfl fun σ w' hx hg => ⟨_, runs_pick_t (ρ := σ.eval) (w := w') (.tmp 73) (.tmp 75) (.const (.bool false)) rfl hg.1 hg.2.1, rfl⟩) ?_
      refine LinL.step (s := (.val (.bool true))) [(68, some 8), (76, some 0)] rfl (by kernel_rfl) (op_runs rfl fun σ w' hx hg => ⟨(.bool true), by have h68 : σ.tmps.getD 68 undef = .bool false := hg.1; have h76 : σ.tmps.getD 76 undef = .bool false := hg.2.1; unfold Runs execOp; simp [Act.eval, h68, h76, go_sem], rfl⟩) ?_
      refine LinL.step (s := (.val (.bool true))) [(77, some 0)] rfl (by kernel_rfl) (op_copy 77 0 (.val (.bool true)) rfl (.inr rfl) rfl) ?_
      intro wN hxN
      simp only [Fin', List.reverse_cons, List.reverse_nil, List.nil_append, List.cons_append, List.drop_zero, List.take_succ_cons, List.take_zero]
      simp only [Act.put, List.setIfInBounds_toArray, List.set_cons_zero, List.set_cons_succ]
      replace hX := hX.trans hxN
      go_wp2
      go_ret
      exact Keep.intro ⟨rfl, hX⟩
  obtain ⟨c, rfl⟩ := Int.eq_ofNat_of_zero_le (show 0 ≤ cut by omega)
  by_cases hcl : c < L.length
  rotate_left
  · have t2 : decide (c < L.length) = false := by simpa using hcl
    clear hcl
    go_wp2_with ((first
      | ((with_reducible refine at_box ?_); refine w_box _ [.int .i64 b.slot, .int .i64 b.miner, .int .i64 b.var, .int .i64 b.parent, u] rfl rfl rfl rfl ?_; intro g3 w1 hg3 hX f3)
      | (go_at_call 11; refine (alive_any _).mono ?_; rintro e w2 ⟨rfl, hx⟩; replace f3 := f3.ext hx; replace hX := hX.trans hx; clear hx)
      | (go_at_call 12; refine (BBytes_any (b := b) (r1.out.ext TxR.stays hX) hp.out).mono ?_; rintro e w3 ⟨v7, rfl, o7, hx⟩; rw [E1.out]; rw [E2.out] at o7; have b7 := o7.byt; replace f3 := f3.ext hx; replace hX := hX.trans hx; clear hx o7)
      | ((with_reducible refine at_lit ?_); refine w_bempty (o := ⟨some 32, _, _, _, _, _⟩) rfl rfl ?_; intro v32 wn B hB1 hBl hxn o1; have hxb := hxn; clear hxn)
      | ((with_reducible refine at_bi ?_); refine appb (o := ⟨some 34, _, _, _, _, _⟩) _ _ rfl rfl rfl rfl o1 (b7.ext hxb) hbc.out hBl ?_; intro v34 wa o2 hba hga; rw [List.nil_append] at o2; replace hxb := hxb.trans' (hba.mono hB1); replace hBl := Nat.le_trans hBl hba.size; clear o1 hba hga)
      | ((with_reducible refine at_lit ?_); refine w_bytes [1] (o := ⟨some 35, _, _, _, _, _⟩) rfl rfl rfl rfl (by omega) ?_; intro v35 wb hx35 o35; have b35 := o35.byt; replace o2 := o2.ext hx35; replace hxb := hxb.trans hx35; replace hBl := Nat.le_trans hBl hx35.size; clear hx35 o35)
      | ((with_reducible refine at_bi ?_); refine appb (o := ⟨some 36, _, _, _, _, _⟩) _ _ rfl rfl rfl rfl o2 b35 hbc2.out hBl ?_; intro v36 wc o3 hbb hgb; have hx := hxb.trans' (hbb.mono hB1); have b36 := o3.byt; clear o2 b35 hbb hgb hxb hBl hB1 o3; replace f3 := f3.ext hx; replace b7 := b7.ext hx; replace hX := hX.trans hx; clear hx)
      | (go_at_call 10; refine (BRead_no hno1.out h256.out hbl.out b36).mono ?_; rintro e w5 ⟨u9, rfl, hx, o9⟩; have c9 := o9.recs.one'; clear b36 o9; replace f3 := f3.ext hx; replace b7 := b7.ext hx; replace hX := hX.trans hx; clear hx)
      | ((with_reducible refine at_alloc ?_); refine w_alloc (o := ⟨some 9, _, _, _, _, _⟩) Try.stBlk rfl rfl ?_; intro g9 w6 hg9 hx9 f9)
      | ((with_reducible refine at_store ?_); refine w_astore Try.stBlk (us := [.int .i64 0, .int .i64 0, .int .i64 0, .int .i64 0, u9]) _ _ rfl rfl rfl rfl rfl f9 rfl rfl (blk_one c9) ?_; intro w7 hm f9'; have hx := hm.after hx9 (fun i e => e ▸ hg9); clear hm f9' f9 hx9 hg9; replace f3 := f3.ext hx; replace b7 := b7.ext hx; replace hX := hX.trans hx; clear hx)
      | ((with_reducible refine at_bi ?_); (try refine w_yes _ _ _ rfl rfl rfl ?_); refine b_len _ rfl rfl (v := v7) rfl b7 ?_)
      | ((with_reducible refine at_load ?_); (try refine w_yes _ _ _ rfl rfl rfl ?_); refine w_aload Try.stBlk (.tmp 3) rfl rfl rfl f3 rfl ?_)
      | fail) <;> (try simp only [Act.put, List.setIfInBounds_toArray, List.set_cons_zero, List.set_cons_succ]))
    refine wp_region_phx (by kernel_rfl) ?_; intro wd hxd; replace f3 := f3.ext hxd; replace hX := hX.trans hxd; have s1 := r1.out.ext TxR.stays hX
    refine Ph.gate 0 7 (by kernel_rfl) ?_
    refine LinL.step (s := (.val (.int .i64 s))) [(2, none)] rfl (by kernel_rfl) (op_out 2 (.int .i64 s) rfl (.inl rfl) rfl) ?_
    refine LinL.step (s := (.val (.pointer (some ⟨g3, 1, none⟩)))) [(3, none)] rfl (by kernel_rfl) (op_runs rfl fun σ w' hx hg => ⟨_, runs_field (ρ := σ.eval) (w := w') Try.stBlk (.tmp 3) g3 1 rfl hg.1 (by omega), rfl⟩) ?_
    refine LinL.step (s := (.val (.int .i64 b.miner))) [(62, some 0)] rfl (by kernel_rfl) (op_runs rfl fun σ w' hx hg => ⟨_, runs_fload (ρ := σ.eval) (w := w') (.tmp 62) rfl hg.1 (agg_of (by kernel_rfl) _) (f3.ext hx) rfl, rfl⟩) ?_
    refine LinL.step (s := (.val (.agg #[.int .i64 b.slot, .int .i64 b.miner, .int .i64 b.var, .int .i64 b.parent, u]))) [(3, none)] rfl (by kernel_rfl) (op_runs rfl fun σ w' hx hg => ⟨_, runs_aload (ρ := σ.eval) (w := w') Try.stBlk (.tmp 3) rfl hg.1 (f3.ext hx) rfl, rfl⟩) ?_
    refine LinL.step (s := (.val (.int .i64 b.nm))) [(64, some 0)] rfl (by kernel_rfl) (op_calls 16 #[(.tmp 64)] #[24] (fun σ => #[.agg #[.int .i64 b.slot, .int .i64 b.miner, .int .i64 b.var, .int .i64 b.parent, u]]) rfl rfl (fun _ _ => rfl) fun σ w' hx hg => ⟨by have h64 : σ.tmps.getD 64 undef = .agg #[.int .i64 b.slot, .int .i64 b.miner, .int .i64 b.var, .int .i64 b.parent, u] := hg.1; simp only [List.map_toArray, List.map_cons, List.map_nil, Act.eval, h64], nameR (b := b) (s1.ext TxR.stays hx) hp.out hnm.out⟩) ?_
    refine LinL.step (s := (.val (.agg #[.int .i64 s, .int .i64 b.miner, .int .i64 0, .int .i64 b.nm, .slice none 0 0]))) [(61, some 4), (63, some 2), (65, some 0)] rfl (by kernel_rfl) (op_runs rfl fun σ w' hx hg => ⟨_, runs_sbuild (ρ := σ.eval) (w := w') Try.stBlk [.int .i64 s, .int .i64 b.miner, .int .i64 0, .int .i64 b.nm, .slice none 0 0] (ps := #[(0, .tmp 61), (1, .tmp 63), (3, .tmp 65)]) rfl (by have h61 : σ.tmps.getD 61 undef = .int .i64 s := hg.1; have h63 : σ.tmps.getD 63 undef = .int .i64 b.miner := hg.2.1; have h65 : σ.tmps.getD 65 undef = .int .i64 b.nm := hg.2.2.1; simp only [List.map_cons, List.map_nil, Act.eval, h61, h63, h65, List.foldl_cons, List.foldl_nil, List.set_cons_zero, List.set_cons_succ]) (by have h61 : σ.tmps.getD 61 undef = .int .i64 s := hg.1; have h63 : σ.tmps.getD 63 undef = .int .i64 b.miner := hg.2.1; have h65 : σ.tmps.getD 65 undef = .int .i64 b.nm := hg.2.2.1; intro p hp; simp at hp; rcases hp with rfl | rfl | rfl; exact ⟨by decide, by show (σ.tmps.getD 61 undef).cells = #[σ.tmps.getD 61 undef]; rw [h61]; exact rfl⟩; exact ⟨by decide, by show (σ.tmps.getD 63 undef).cells = #[σ.tmps.getD 63 undef]; rw [h63]; exact rfl⟩; exact ⟨by decide, by show (σ.tmps.getD 65 undef).cells = #[σ.tmps.getD 65 undef]; rw [h65]; exact rfl⟩), rfl⟩) ?_
    refine LinL.step (s := (Sp.fs wd.heap.size [.int .i64 0, .int .i64 0, .int .i64 0, .int .i64 0, .slice none 0 0])) [] rfl (by kernel_rfl) (op_alloc Try.stBlk (Nat.le_refl _) rfl rfl) ?_
    intro wN hxN
    simp only [Fin', Sp.fs, List.reverse_cons, List.reverse_nil, List.nil_append, List.cons_append, List.drop_zero, List.take_succ_cons, List.take_zero]
    intro q13 hq13
    simp only [Act.put, List.setIfInBounds_toArray, List.set_cons_zero, List.set_cons_succ]
    obtain ⟨g13, rfl, hg13, f13⟩ := hq13
    refine wpOp_of_list rfl ?_
    refine w_astore Try.stBlk (us := [.int .i64 s, .int .i64 b.miner, .int .i64 0, .int .i64 b.nm, .slice none 0 0]) _ _ rfl rfl rfl rfl rfl f13 rfl rfl (blk_one rfl) ?_; intro w8 hm8 f13'; replace f13 := f13'; clear f13'
    have hx8 : Ext wd w8 := hm8.after hxN (fun j e => e ▸ hg13)
    replace f3 := f3.ext hx8; replace hX := hX.trans hx8
    show Ph Try.prog _ _ 8 _ _
    refine Ph.rest 8 0 (by kernel_rfl) ?_
    intro wN2 hxN2
    simp only [Fin', List.reverse_nil, List.drop_zero, List.drop_succ_cons, List.take_zero]
    replace f13 := f13.ext hxN2; replace f3 := f3.ext hxN2; replace hX := hX.trans hxN2
    clear hxN2 hm8 hx8 hg13 hxN hxd s1
    by_cases k0 : b.slot < s
    rotate_left
    · have hch := hide_ (decide_eq_false fun h => k0 (hchild.out.1 h).1)
      go_wp2
      refine wp_region_phx (by kernel_rfl) ?_; intro wd hxd; replace f3 := f3.ext hxd; replace f13 := f13.ext hxd; replace hX := hX.trans hxd
      refine Ph.rest 0 12 (by kernel_rfl) ?_
      refine LinL.step (s := (.val (.agg #[.int .i64 s, .int .i64 b.miner, .int .i64 0, .int .i64 b.nm, .slice none 0 0]))) [(13, none)] rfl (by kernel_rfl) (op_runs rfl fun σ w' hx hg => ⟨_, runs_aload (ρ := σ.eval) (w := w') Try.stBlk (.tmp 13) rfl hg.1 (f13.ext hx) rfl, rfl⟩) ?_
      refine LinL.step (s := (.val (.bool false))) [(67, some 0)] rfl (by kernel_rfl) (op_calls 14 #[(.tmp 67)] #[24] (fun σ => #[.agg #[.int .i64 s, .int .i64 b.miner, .int .i64 0, .int .i64 b.nm, .slice none 0 0]]) rfl rfl (fun _ _ => rfl) fun σ w' hx hg => ⟨by have h67 : σ.tmps.getD 67 undef = .agg #[.int .i64 s, .int .i64 b.miner, .int .i64 0, .int .i64 b.nm, .slice none 0 0] := hg.1; simp only [List.map_toArray, List.map_cons, List.map_nil, Act.eval, h67], rightR (b := ⟨s, b.miner, 0, b.nm, []⟩) (Recs.nilT _) hpn.out hch.out⟩) ?_
      refine LinL.step (s := (.val (.int .i64 s))) [(2, none)] rfl (by kernel_rfl) (op_out 2 (.int .i64 s) rfl (.inl rfl) rfl) ?_
      refine LinL.step (s := (.val (.pointer (some ⟨g3, 0, none⟩)))) [(3, none)] rfl (by kernel_rfl) (op_runs rfl fun σ w' hx hg => ⟨_, runs_field (ρ := σ.eval) (w := w') Try.stBlk (.tmp 3) g3 0 rfl hg.1 (by omega), rfl⟩) ?_
      refine LinL.step (s := (.val (.int .i64 b.slot))) [(70, some 0)] rfl (by kernel_rfl) (op_runs rfl fun σ w' hx hg => ⟨_, runs_fload (ρ := σ.eval) (w := w') (.tmp 70) rfl hg.1 (agg_of (by kernel_rfl) _) (f3.ext hx) rfl, rfl⟩) ?_
      refine LinL.step (s := (.val (.bool false))) [(69, some 2), (71, some 0)] rfl (by kernel_rfl) (op_runs rfl fun σ w' hx hg => ⟨(.bool false), by have h69 : σ.tmps.getD 69 undef = .int .i64 s := hg.1; have h71 : σ.tmps.getD 71 undef = .int .i64 b.slot := hg.2.1; unfold Runs execOp; simp [Act.eval, h69, h71, go_sem, k0], rfl⟩) ?_
      refine LinL.step (s := (.val (.bool false))) [(72, some 0)] rfl (by kernel_rfl) (op_copy 72 0 (.val (.bool false)) rfl (.inl rfl) rfl) ?_
      refine LinL.step (s := .val undef) [(2, none), (73, some 0)] rfl (by kernel_rfl) (op_no (reads := [(2, none)]) 6 73 0 true rfl rfl rfl) ?_
      refine LinL.step (s := .val undef) [(74, some 0), (73, some 1)] rfl (by kernel_rfl) (op_no (reads := [(74, some 0)]) 6 73 1 true rfl rfl rfl) ?_
      refine LinL.step (s := (.val (.bool false))) [(73, some 2), (75, some 0)] rfl (by kernel_rfl) (op_runs rfl fun σ w' hx hg => ⟨_, runs_pick_f (ρ := σ.eval) (w := w') (.tmp 73) (.tmp 75) (.const (.bool false)) rfl hg.1 rfl, rfl⟩) ?_
      refine LinL.step (s := (.val (.bool true))) [(68, some 8), (76, some 0)] rfl (by kernel_rfl) (op_runs rfl fun σ w' hx hg => ⟨(.bool true), by have h68 : σ.tmps.getD 68 undef = .bool false := hg.1; have h76 : σ.tmps.getD 76 undef = .bool false := hg.2.1; unfold Runs execOp; simp [Act.eval, h68, h76, go_sem], rfl⟩) ?_
      refine LinL.step (s := (.val (.bool true))) [(77, some 0)] rfl (by kernel_rfl) (op_copy 77 0 (.val (.bool true)) rfl (.inr rfl) rfl) ?_
      intro wN hxN
      simp only [Fin', List.reverse_cons, List.reverse_nil, List.nil_append, List.cons_append, List.drop_zero, List.take_succ_cons, List.take_zero]
      simp only [Act.put, List.setIfInBounds_toArray, List.set_cons_zero, List.set_cons_succ]
      replace hX := hX.trans hxN
      go_wp2
      go_ret
      exact Keep.intro ⟨rfl, hX⟩
    by_cases k1 : s ≤ 4095
    · have hch := hide_ (decide_eq_true (hchild.out.2 ⟨k0, k1⟩))
      go_wp2
      refine wp_region_phx (by kernel_rfl) ?_; intro wd hxd; replace f3 := f3.ext hxd; replace f13 := f13.ext hxd; replace hX := hX.trans hxd
      refine Ph.rest 0 12 (by kernel_rfl) ?_
      refine LinL.step (s := (.val (.agg #[.int .i64 s, .int .i64 b.miner, .int .i64 0, .int .i64 b.nm, .slice none 0 0]))) [(13, none)] rfl (by kernel_rfl) (op_runs rfl fun σ w' hx hg => ⟨_, runs_aload (ρ := σ.eval) (w := w') Try.stBlk (.tmp 13) rfl hg.1 (f13.ext hx) rfl, rfl⟩) ?_
      refine LinL.step (s := (.val (.bool true))) [(67, some 0)] rfl (by kernel_rfl) (op_calls 14 #[(.tmp 67)] #[24] (fun σ => #[.agg #[.int .i64 s, .int .i64 b.miner, .int .i64 0, .int .i64 b.nm, .slice none 0 0]]) rfl rfl (fun _ _ => rfl) fun σ w' hx hg => ⟨by have h67 : σ.tmps.getD 67 undef = .agg #[.int .i64 s, .int .i64 b.miner, .int .i64 0, .int .i64 b.nm, .slice none 0 0] := hg.1; simp only [List.map_toArray, List.map_cons, List.map_nil, Act.eval, h67], rightR (b := ⟨s, b.miner, 0, b.nm, []⟩) (Recs.nilT _) hpn.out hch.out⟩) ?_
      refine LinL.step (s := (.val (.int .i64 s))) [(2, none)] rfl (by kernel_rfl) (op_out 2 (.int .i64 s) rfl (.inl rfl) rfl) ?_
      refine LinL.step (s := (.val (.pointer (some ⟨g3, 0, none⟩)))) [(3, none)] rfl (by kernel_rfl) (op_runs rfl fun σ w' hx hg => ⟨_, runs_field (ρ := σ.eval) (w := w') Try.stBlk (.tmp 3) g3 0 rfl hg.1 (by omega), rfl⟩) ?_
      refine LinL.step (s := (.val (.int .i64 b.slot))) [(70, some 0)] rfl (by kernel_rfl) (op_runs rfl fun σ w' hx hg => ⟨_, runs_fload (ρ := σ.eval) (w := w') (.tmp 70) rfl hg.1 (agg_of (by kernel_rfl) _) (f3.ext hx) rfl, rfl⟩) ?_
      refine LinL.step (s := (.val (.bool true))) [(69, some 2), (71, some 0)] rfl (by kernel_rfl) (op_runs rfl fun σ w' hx hg => ⟨(.bool true), by have h69 : σ.tmps.getD 69 undef = .int .i64 s := hg.1; have h71 : σ.tmps.getD 71 undef = .int .i64 b.slot := hg.2.1; unfold Runs execOp; simp [Act.eval, h69, h71, go_sem, k0], rfl⟩) ?_
      refine LinL.step (s := (.val (.bool true))) [(72, some 0)] rfl (by kernel_rfl) (op_copy 72 0 (.val (.bool true)) rfl (.inl rfl) rfl) ?_
      refine LinL.step (s := (.val (.int .i64 s))) [(2, none), (73, some 0)] rfl (by kernel_rfl) (op_yes (reads := [(2, none)]) 6 73 0 true rfl rfl rfl (op_out 2 (.int .i64 s) rfl (.inl rfl) rfl)) ?_
      refine LinL.step (s := (.val (.bool true))) [(74, some 0), (73, some 1)] rfl (by kernel_rfl) (op_yes (reads := [(74, some 0)]) 6 73 1 true rfl rfl rfl (op_runs rfl fun σ w' hx hg => ⟨(.bool true), by have h74 : σ.tmps.getD 74 undef = .int .i64 s := hg.1; unfold Runs execOp; simp [Act.eval, h74, go_sem, k1], rfl⟩)) ?_
      refine LinL.step (s := (.val (.bool true))) [(73, some 2), (75, some 0)] rfl (by kernel_rfl) (op_runs rfl fun σ w' hx hg => ⟨_, runs_pick_t (ρ := σ.eval) (w := w') (.tmp 73) (.tmp 75) (.const (.bool false)) rfl hg.1 hg.2.1, rfl⟩) ?_
      refine LinL.step (s := (.val (.bool true))) [(68, some 8), (76, some 0)] rfl (by kernel_rfl) (op_runs rfl fun σ w' hx hg => ⟨(.bool true), by have h68 : σ.tmps.getD 68 undef = .bool true := hg.1; have h76 : σ.tmps.getD 76 undef = .bool true := hg.2.1; unfold Runs execOp; simp [Act.eval, h68, h76, go_sem], rfl⟩) ?_
      refine LinL.step (s := (.val (.bool true))) [(77, some 0)] rfl (by kernel_rfl) (op_copy 77 0 (.val (.bool true)) rfl (.inr rfl) rfl) ?_
      intro wN hxN
      simp only [Fin', List.reverse_cons, List.reverse_nil, List.nil_append, List.cons_append, List.drop_zero, List.take_succ_cons, List.take_zero]
      simp only [Act.put, List.setIfInBounds_toArray, List.set_cons_zero, List.set_cons_succ]
      replace hX := hX.trans hxN
      go_wp2
      go_ret
      exact Keep.intro ⟨rfl, hX⟩
    · have hch := hide_ (decide_eq_false fun h => k1 (hchild.out.1 h).2)
      go_wp2
      refine wp_region_phx (by kernel_rfl) ?_; intro wd hxd; replace f3 := f3.ext hxd; replace f13 := f13.ext hxd; replace hX := hX.trans hxd
      refine Ph.rest 0 12 (by kernel_rfl) ?_
      refine LinL.step (s := (.val (.agg #[.int .i64 s, .int .i64 b.miner, .int .i64 0, .int .i64 b.nm, .slice none 0 0]))) [(13, none)] rfl (by kernel_rfl) (op_runs rfl fun σ w' hx hg => ⟨_, runs_aload (ρ := σ.eval) (w := w') Try.stBlk (.tmp 13) rfl hg.1 (f13.ext hx) rfl, rfl⟩) ?_
      refine LinL.step (s := (.val (.bool false))) [(67, some 0)] rfl (by kernel_rfl) (op_calls 14 #[(.tmp 67)] #[24] (fun σ => #[.agg #[.int .i64 s, .int .i64 b.miner, .int .i64 0, .int .i64 b.nm, .slice none 0 0]]) rfl rfl (fun _ _ => rfl) fun σ w' hx hg => ⟨by have h67 : σ.tmps.getD 67 undef = .agg #[.int .i64 s, .int .i64 b.miner, .int .i64 0, .int .i64 b.nm, .slice none 0 0] := hg.1; simp only [List.map_toArray, List.map_cons, List.map_nil, Act.eval, h67], rightR (b := ⟨s, b.miner, 0, b.nm, []⟩) (Recs.nilT _) hpn.out hch.out⟩) ?_
      refine LinL.step (s := (.val (.int .i64 s))) [(2, none)] rfl (by kernel_rfl) (op_out 2 (.int .i64 s) rfl (.inl rfl) rfl) ?_
      refine LinL.step (s := (.val (.pointer (some ⟨g3, 0, none⟩)))) [(3, none)] rfl (by kernel_rfl) (op_runs rfl fun σ w' hx hg => ⟨_, runs_field (ρ := σ.eval) (w := w') Try.stBlk (.tmp 3) g3 0 rfl hg.1 (by omega), rfl⟩) ?_
      refine LinL.step (s := (.val (.int .i64 b.slot))) [(70, some 0)] rfl (by kernel_rfl) (op_runs rfl fun σ w' hx hg => ⟨_, runs_fload (ρ := σ.eval) (w := w') (.tmp 70) rfl hg.1 (agg_of (by kernel_rfl) _) (f3.ext hx) rfl, rfl⟩) ?_
      refine LinL.step (s := (.val (.bool true))) [(69, some 2), (71, some 0)] rfl (by kernel_rfl) (op_runs rfl fun σ w' hx hg => ⟨(.bool true), by have h69 : σ.tmps.getD 69 undef = .int .i64 s := hg.1; have h71 : σ.tmps.getD 71 undef = .int .i64 b.slot := hg.2.1; unfold Runs execOp; simp [Act.eval, h69, h71, go_sem, k0], rfl⟩) ?_
      refine LinL.step (s := (.val (.bool true))) [(72, some 0)] rfl (by kernel_rfl) (op_copy 72 0 (.val (.bool true)) rfl (.inl rfl) rfl) ?_
      refine LinL.step (s := (.val (.int .i64 s))) [(2, none), (73, some 0)] rfl (by kernel_rfl) (op_yes (reads := [(2, none)]) 6 73 0 true rfl rfl rfl (op_out 2 (.int .i64 s) rfl (.inl rfl) rfl)) ?_
      refine LinL.step (s := (.val (.bool false))) [(74, some 0), (73, some 1)] rfl (by kernel_rfl) (op_yes (reads := [(74, some 0)]) 6 73 1 true rfl rfl rfl (op_runs rfl fun σ w' hx hg => ⟨(.bool false), by have h74 : σ.tmps.getD 74 undef = .int .i64 s := hg.1; unfold Runs execOp; simp [Act.eval, h74, go_sem, k1], rfl⟩)) ?_
      refine LinL.step (s := (.val (.bool false))) [(73, some 2), (75, some 0)] rfl (by kernel_rfl) (op_runs rfl fun σ w' hx hg => ⟨_, runs_pick_t (ρ := σ.eval) (w := w') (.tmp 73) (.tmp 75) (.const (.bool false)) rfl hg.1 hg.2.1, rfl⟩) ?_
      refine LinL.step (s := (.val (.bool true))) [(68, some 8), (76, some 0)] rfl (by kernel_rfl) (op_runs rfl fun σ w' hx hg => ⟨(.bool true), by have h68 : σ.tmps.getD 68 undef = .bool false := hg.1; have h76 : σ.tmps.getD 76 undef = .bool false := hg.2.1; unfold Runs execOp; simp [Act.eval, h68, h76, go_sem], rfl⟩) ?_
      refine LinL.step (s := (.val (.bool true))) [(77, some 0)] rfl (by kernel_rfl) (op_copy 77 0 (.val (.bool true)) rfl (.inr rfl) rfl) ?_
      intro wN hxN
      simp only [Fin', List.reverse_cons, List.reverse_nil, List.nil_append, List.cons_append, List.drop_zero, List.take_succ_cons, List.take_zero]
      simp only [Act.put, List.setIfInBounds_toArray, List.set_cons_zero, List.set_cons_succ]
      replace hX := hX.trans hxN
      go_wp2
      go_ret
      exact Keep.intro ⟨rfl, hX⟩
  have t2 : decide (c < L.length) = true := by simpa using hcl
  have hno2 := hide_ (hcutno.out c hcl)
  have h256b := hide_ (h256c.out c)
  have hbl2 := hide_ (show (L.take c).length ≤ 140737488355328 from by simp; omega)
  have hbc3 := hide_ (show ([] : List Nat).length + (L.take c).length ≤ 140737488355328 from by simp; omega)
  go_wp2_with ((first
    | ((with_reducible refine at_box ?_); refine w_box _ [.int .i64 b.slot, .int .i64 b.miner, .int .i64 b.var, .int .i64 b.parent, u] rfl rfl rfl rfl ?_; intro g3 w1 hg3 hX f3)
    | (go_at_call 11; refine (alive_any _).mono ?_; rintro e w2 ⟨rfl, hx⟩; replace f3 := f3.ext hx; replace hX := hX.trans hx; clear hx)
    | (go_at_call 12; refine (BBytes_any (b := b) (r1.out.ext TxR.stays hX) hp.out).mono ?_; rintro e w3 ⟨v7, rfl, o7, hx⟩; rw [E1.out]; rw [E2.out] at o7; have b7 := o7.byt; replace f3 := f3.ext hx; replace hX := hX.trans hx; clear hx o7)
    | ((with_reducible refine at_lit ?_); refine w_bempty (o := ⟨some 32, _, _, _, _, _⟩) rfl rfl ?_; intro v32 wn B hB1 hBl hxn o1; have hxb := hxn; clear hxn)
    | ((with_reducible refine at_bi ?_); refine appb (o := ⟨some 34, _, _, _, _, _⟩) _ _ rfl rfl rfl rfl o1 (b7.ext hxb) hbc.out hBl ?_; intro v34 wa o2 hba hga; rw [List.nil_append] at o2; replace hxb := hxb.trans' (hba.mono hB1); replace hBl := Nat.le_trans hBl hba.size; clear o1 hba hga)
    | ((with_reducible refine at_lit ?_); refine w_bytes [1] (o := ⟨some 35, _, _, _, _, _⟩) rfl rfl rfl rfl (by omega) ?_; intro v35 wb hx35 o35; have b35 := o35.byt; replace o2 := o2.ext hx35; replace hxb := hxb.trans hx35; replace hBl := Nat.le_trans hBl hx35.size; clear hx35 o35)
    | ((with_reducible refine at_bi ?_); refine appb (o := ⟨some 36, _, _, _, _, _⟩) _ _ rfl rfl rfl rfl o2 b35 hbc2.out hBl ?_; intro v36 wc o3 hbb hgb; have hx := hxb.trans' (hbb.mono hB1); have b36 := o3.byt; clear o2 b35 hbb hgb hxb hBl hB1 o3; replace f3 := f3.ext hx; replace b7 := b7.ext hx; replace hX := hX.trans hx; clear hx)
    | (go_at_call 10; refine (BRead_no hno1.out h256.out hbl.out b36).mono ?_; rintro e w5 ⟨u9, rfl, hx, o9⟩; have c9 := o9.recs.one'; clear b36 o9; replace f3 := f3.ext hx; replace b7 := b7.ext hx; replace hX := hX.trans hx; clear hx)
    | ((with_reducible refine at_alloc ?_); refine w_alloc (o := ⟨some 9, _, _, _, _, _⟩) Try.stBlk rfl rfl ?_; intro g9 w6 hg9 hx9 f9)
    | ((with_reducible refine at_store ?_); refine w_astore Try.stBlk (us := [.int .i64 0, .int .i64 0, .int .i64 0, .int .i64 0, u9]) _ _ rfl rfl rfl rfl rfl f9 rfl rfl (blk_one c9) ?_; intro w7 hm f9'; have hx := hm.after hx9 (fun i e => e ▸ hg9); clear hm f9' f9 hx9 hg9; replace f3 := f3.ext hx; replace b7 := b7.ext hx; replace hX := hX.trans hx; clear hx)
    | ((with_reducible refine at_bi ?_); (try refine w_yes _ _ _ rfl rfl rfl ?_); refine b_len _ rfl rfl (v := v7) rfl b7 ?_)
    | ((with_reducible refine at_lit ?_); refine w_bempty (o := ⟨some 51, _, _, _, _, _⟩) rfl rfl ?_; intro v51 wn B hB1 hBl hxn o1; have hxb := hxn; clear hxn)
    | ((with_reducible refine at_cut ?_); refine b_to _ _ c rfl rfl (v := v7) rfl (b7.ext hxb) rfl (Nat.le_of_lt hcl) ?_; intro v54 b54)
    | ((with_reducible refine at_bi ?_); refine appb (o := ⟨some 55, _, _, _, _, _⟩) _ _ rfl rfl rfl rfl o1 b54 hbc3.out hBl ?_; intro v55 wa o2 hba hga; rw [List.nil_append] at o2; have hx := hxb.trans' (hba.mono hB1); have b55 := o2.byt; clear o1 hba hga hxb hBl hB1 o2 b54; replace f3 := f3.ext hx; replace b7 := b7.ext hx; replace hX := hX.trans hx; clear hx)
    | (go_at_call 10; refine (BRead_no hno2.out h256b.out hbl2.out b55).mono ?_; rintro e w5 ⟨u11, rfl, hx, o11⟩; have c11 := o11.recs.one'; clear b55 o11; replace f3 := f3.ext hx; replace b7 := b7.ext hx; replace hX := hX.trans hx; clear hx)
    | ((with_reducible refine at_alloc ?_); refine w_alloc (o := ⟨some 11, _, _, _, _, _⟩) Try.stBlk rfl rfl ?_; intro g11 w6 hg11 hx11 f11)
    | ((with_reducible refine at_store ?_); refine w_astore Try.stBlk (us := [.int .i64 0, .int .i64 0, .int .i64 0, .int .i64 0, u11]) _ _ rfl rfl rfl rfl rfl f11 rfl rfl (blk_one c11) ?_; intro w7 hm f11'; have hx := hm.after hx11 (fun i e => e ▸ hg11); clear hm f11' f11 hx11 hg11; replace f3 := f3.ext hx; replace b7 := b7.ext hx; replace hX := hX.trans hx; clear hx)
    | ((with_reducible refine at_load ?_); (try refine w_yes _ _ _ rfl rfl rfl ?_); refine w_aload Try.stBlk (.tmp 3) rfl rfl rfl f3 rfl ?_)
    | fail) <;> (try simp only [Act.put, List.setIfInBounds_toArray, List.set_cons_zero, List.set_cons_succ]))
  refine wp_region_phx (by kernel_rfl) ?_; intro wd hxd; replace f3 := f3.ext hxd; replace hX := hX.trans hxd; have s1 := r1.out.ext TxR.stays hX
  refine Ph.gate 0 7 (by kernel_rfl) ?_
  refine LinL.step (s := (.val (.int .i64 s))) [(2, none)] rfl (by kernel_rfl) (op_out 2 (.int .i64 s) rfl (.inl rfl) rfl) ?_
  refine LinL.step (s := (.val (.pointer (some ⟨g3, 1, none⟩)))) [(3, none)] rfl (by kernel_rfl) (op_runs rfl fun σ w' hx hg => ⟨_, runs_field (ρ := σ.eval) (w := w') Try.stBlk (.tmp 3) g3 1 rfl hg.1 (by omega), rfl⟩) ?_
  refine LinL.step (s := (.val (.int .i64 b.miner))) [(62, some 0)] rfl (by kernel_rfl) (op_runs rfl fun σ w' hx hg => ⟨_, runs_fload (ρ := σ.eval) (w := w') (.tmp 62) rfl hg.1 (agg_of (by kernel_rfl) _) (f3.ext hx) rfl, rfl⟩) ?_
  refine LinL.step (s := (.val (.agg #[.int .i64 b.slot, .int .i64 b.miner, .int .i64 b.var, .int .i64 b.parent, u]))) [(3, none)] rfl (by kernel_rfl) (op_runs rfl fun σ w' hx hg => ⟨_, runs_aload (ρ := σ.eval) (w := w') Try.stBlk (.tmp 3) rfl hg.1 (f3.ext hx) rfl, rfl⟩) ?_
  refine LinL.step (s := (.val (.int .i64 b.nm))) [(64, some 0)] rfl (by kernel_rfl) (op_calls 16 #[(.tmp 64)] #[24] (fun σ => #[.agg #[.int .i64 b.slot, .int .i64 b.miner, .int .i64 b.var, .int .i64 b.parent, u]]) rfl rfl (fun _ _ => rfl) fun σ w' hx hg => ⟨by have h64 : σ.tmps.getD 64 undef = .agg #[.int .i64 b.slot, .int .i64 b.miner, .int .i64 b.var, .int .i64 b.parent, u] := hg.1; simp only [List.map_toArray, List.map_cons, List.map_nil, Act.eval, h64], nameR (b := b) (s1.ext TxR.stays hx) hp.out hnm.out⟩) ?_
  refine LinL.step (s := (.val (.agg #[.int .i64 s, .int .i64 b.miner, .int .i64 0, .int .i64 b.nm, .slice none 0 0]))) [(61, some 4), (63, some 2), (65, some 0)] rfl (by kernel_rfl) (op_runs rfl fun σ w' hx hg => ⟨_, runs_sbuild (ρ := σ.eval) (w := w') Try.stBlk [.int .i64 s, .int .i64 b.miner, .int .i64 0, .int .i64 b.nm, .slice none 0 0] (ps := #[(0, .tmp 61), (1, .tmp 63), (3, .tmp 65)]) rfl (by have h61 : σ.tmps.getD 61 undef = .int .i64 s := hg.1; have h63 : σ.tmps.getD 63 undef = .int .i64 b.miner := hg.2.1; have h65 : σ.tmps.getD 65 undef = .int .i64 b.nm := hg.2.2.1; simp only [List.map_cons, List.map_nil, Act.eval, h61, h63, h65, List.foldl_cons, List.foldl_nil, List.set_cons_zero, List.set_cons_succ]) (by have h61 : σ.tmps.getD 61 undef = .int .i64 s := hg.1; have h63 : σ.tmps.getD 63 undef = .int .i64 b.miner := hg.2.1; have h65 : σ.tmps.getD 65 undef = .int .i64 b.nm := hg.2.2.1; intro p hp; simp at hp; rcases hp with rfl | rfl | rfl; exact ⟨by decide, by show (σ.tmps.getD 61 undef).cells = #[σ.tmps.getD 61 undef]; rw [h61]; exact rfl⟩; exact ⟨by decide, by show (σ.tmps.getD 63 undef).cells = #[σ.tmps.getD 63 undef]; rw [h63]; exact rfl⟩; exact ⟨by decide, by show (σ.tmps.getD 65 undef).cells = #[σ.tmps.getD 65 undef]; rw [h65]; exact rfl⟩), rfl⟩) ?_
  refine LinL.step (s := (Sp.fs wd.heap.size [.int .i64 0, .int .i64 0, .int .i64 0, .int .i64 0, .slice none 0 0])) [] rfl (by kernel_rfl) (op_alloc Try.stBlk (Nat.le_refl _) rfl rfl) ?_
  intro wN hxN
  simp only [Fin', Sp.fs, List.reverse_cons, List.reverse_nil, List.nil_append, List.cons_append, List.drop_zero, List.take_succ_cons, List.take_zero]
  intro q13 hq13
  simp only [Act.put, List.setIfInBounds_toArray, List.set_cons_zero, List.set_cons_succ]
  obtain ⟨g13, rfl, hg13, f13⟩ := hq13
  refine wpOp_of_list rfl ?_
  refine w_astore Try.stBlk (us := [.int .i64 s, .int .i64 b.miner, .int .i64 0, .int .i64 b.nm, .slice none 0 0]) _ _ rfl rfl rfl rfl rfl f13 rfl rfl (blk_one rfl) ?_; intro w8 hm8 f13'; replace f13 := f13'; clear f13'
  have hx8 : Ext wd w8 := hm8.after hxN (fun j e => e ▸ hg13)
  replace f3 := f3.ext hx8; replace hX := hX.trans hx8
  show Ph Try.prog _ _ 8 _ _
  refine Ph.rest 8 0 (by kernel_rfl) ?_
  intro wN2 hxN2
  simp only [Fin', List.reverse_nil, List.drop_zero, List.drop_succ_cons, List.take_zero]
  replace f13 := f13.ext hxN2; replace f3 := f3.ext hxN2; replace hX := hX.trans hxN2
  clear hxN2 hm8 hx8 hg13 hxN hxd s1
  by_cases k0 : b.slot < s
  rotate_left
  · have hch := hide_ (decide_eq_false fun h => k0 (hchild.out.1 h).1)
    go_wp2
    refine wp_region_phx (by kernel_rfl) ?_; intro wd hxd; replace f3 := f3.ext hxd; replace f13 := f13.ext hxd; replace hX := hX.trans hxd
    refine Ph.rest 0 12 (by kernel_rfl) ?_
    refine LinL.step (s := (.val (.agg #[.int .i64 s, .int .i64 b.miner, .int .i64 0, .int .i64 b.nm, .slice none 0 0]))) [(13, none)] rfl (by kernel_rfl) (op_runs rfl fun σ w' hx hg => ⟨_, runs_aload (ρ := σ.eval) (w := w') Try.stBlk (.tmp 13) rfl hg.1 (f13.ext hx) rfl, rfl⟩) ?_
    refine LinL.step (s := (.val (.bool false))) [(67, some 0)] rfl (by kernel_rfl) (op_calls 14 #[(.tmp 67)] #[24] (fun σ => #[.agg #[.int .i64 s, .int .i64 b.miner, .int .i64 0, .int .i64 b.nm, .slice none 0 0]]) rfl rfl (fun _ _ => rfl) fun σ w' hx hg => ⟨by have h67 : σ.tmps.getD 67 undef = .agg #[.int .i64 s, .int .i64 b.miner, .int .i64 0, .int .i64 b.nm, .slice none 0 0] := hg.1; simp only [List.map_toArray, List.map_cons, List.map_nil, Act.eval, h67], rightR (b := ⟨s, b.miner, 0, b.nm, []⟩) (Recs.nilT _) hpn.out hch.out⟩) ?_
    refine LinL.step (s := (.val (.int .i64 s))) [(2, none)] rfl (by kernel_rfl) (op_out 2 (.int .i64 s) rfl (.inl rfl) rfl) ?_
    refine LinL.step (s := (.val (.pointer (some ⟨g3, 0, none⟩)))) [(3, none)] rfl (by kernel_rfl) (op_runs rfl fun σ w' hx hg => ⟨_, runs_field (ρ := σ.eval) (w := w') Try.stBlk (.tmp 3) g3 0 rfl hg.1 (by omega), rfl⟩) ?_
    refine LinL.step (s := (.val (.int .i64 b.slot))) [(70, some 0)] rfl (by kernel_rfl) (op_runs rfl fun σ w' hx hg => ⟨_, runs_fload (ρ := σ.eval) (w := w') (.tmp 70) rfl hg.1 (agg_of (by kernel_rfl) _) (f3.ext hx) rfl, rfl⟩) ?_
    refine LinL.step (s := (.val (.bool false))) [(69, some 2), (71, some 0)] rfl (by kernel_rfl) (op_runs rfl fun σ w' hx hg => ⟨(.bool false), by have h69 : σ.tmps.getD 69 undef = .int .i64 s := hg.1; have h71 : σ.tmps.getD 71 undef = .int .i64 b.slot := hg.2.1; unfold Runs execOp; simp [Act.eval, h69, h71, go_sem, k0], rfl⟩) ?_
    refine LinL.step (s := (.val (.bool false))) [(72, some 0)] rfl (by kernel_rfl) (op_copy 72 0 (.val (.bool false)) rfl (.inl rfl) rfl) ?_
    refine LinL.step (s := .val undef) [(2, none), (73, some 0)] rfl (by kernel_rfl) (op_no (reads := [(2, none)]) 6 73 0 true rfl rfl rfl) ?_
    refine LinL.step (s := .val undef) [(74, some 0), (73, some 1)] rfl (by kernel_rfl) (op_no (reads := [(74, some 0)]) 6 73 1 true rfl rfl rfl) ?_
    refine LinL.step (s := (.val (.bool false))) [(73, some 2), (75, some 0)] rfl (by kernel_rfl) (op_runs rfl fun σ w' hx hg => ⟨_, runs_pick_f (ρ := σ.eval) (w := w') (.tmp 73) (.tmp 75) (.const (.bool false)) rfl hg.1 rfl, rfl⟩) ?_
    refine LinL.step (s := (.val (.bool true))) [(68, some 8), (76, some 0)] rfl (by kernel_rfl) (op_runs rfl fun σ w' hx hg => ⟨(.bool true), by have h68 : σ.tmps.getD 68 undef = .bool false := hg.1; have h76 : σ.tmps.getD 76 undef = .bool false := hg.2.1; unfold Runs execOp; simp [Act.eval, h68, h76, go_sem], rfl⟩) ?_
    refine LinL.step (s := (.val (.bool true))) [(77, some 0)] rfl (by kernel_rfl) (op_copy 77 0 (.val (.bool true)) rfl (.inr rfl) rfl) ?_
    intro wN hxN
    simp only [Fin', List.reverse_cons, List.reverse_nil, List.nil_append, List.cons_append, List.drop_zero, List.take_succ_cons, List.take_zero]
    simp only [Act.put, List.setIfInBounds_toArray, List.set_cons_zero, List.set_cons_succ]
    replace hX := hX.trans hxN
    go_wp2
    go_ret
    exact Keep.intro ⟨rfl, hX⟩
  by_cases k1 : s ≤ 4095
  · have hch := hide_ (decide_eq_true (hchild.out.2 ⟨k0, k1⟩))
    go_wp2
    refine wp_region_phx (by kernel_rfl) ?_; intro wd hxd; replace f3 := f3.ext hxd; replace f13 := f13.ext hxd; replace hX := hX.trans hxd
    refine Ph.rest 0 12 (by kernel_rfl) ?_
    refine LinL.step (s := (.val (.agg #[.int .i64 s, .int .i64 b.miner, .int .i64 0, .int .i64 b.nm, .slice none 0 0]))) [(13, none)] rfl (by kernel_rfl) (op_runs rfl fun σ w' hx hg => ⟨_, runs_aload (ρ := σ.eval) (w := w') Try.stBlk (.tmp 13) rfl hg.1 (f13.ext hx) rfl, rfl⟩) ?_
    refine LinL.step (s := (.val (.bool true))) [(67, some 0)] rfl (by kernel_rfl) (op_calls 14 #[(.tmp 67)] #[24] (fun σ => #[.agg #[.int .i64 s, .int .i64 b.miner, .int .i64 0, .int .i64 b.nm, .slice none 0 0]]) rfl rfl (fun _ _ => rfl) fun σ w' hx hg => ⟨by have h67 : σ.tmps.getD 67 undef = .agg #[.int .i64 s, .int .i64 b.miner, .int .i64 0, .int .i64 b.nm, .slice none 0 0] := hg.1; simp only [List.map_toArray, List.map_cons, List.map_nil, Act.eval, h67], rightR (b := ⟨s, b.miner, 0, b.nm, []⟩) (Recs.nilT _) hpn.out hch.out⟩) ?_
    refine LinL.step (s := (.val (.int .i64 s))) [(2, none)] rfl (by kernel_rfl) (op_out 2 (.int .i64 s) rfl (.inl rfl) rfl) ?_
    refine LinL.step (s := (.val (.pointer (some ⟨g3, 0, none⟩)))) [(3, none)] rfl (by kernel_rfl) (op_runs rfl fun σ w' hx hg => ⟨_, runs_field (ρ := σ.eval) (w := w') Try.stBlk (.tmp 3) g3 0 rfl hg.1 (by omega), rfl⟩) ?_
    refine LinL.step (s := (.val (.int .i64 b.slot))) [(70, some 0)] rfl (by kernel_rfl) (op_runs rfl fun σ w' hx hg => ⟨_, runs_fload (ρ := σ.eval) (w := w') (.tmp 70) rfl hg.1 (agg_of (by kernel_rfl) _) (f3.ext hx) rfl, rfl⟩) ?_
    refine LinL.step (s := (.val (.bool true))) [(69, some 2), (71, some 0)] rfl (by kernel_rfl) (op_runs rfl fun σ w' hx hg => ⟨(.bool true), by have h69 : σ.tmps.getD 69 undef = .int .i64 s := hg.1; have h71 : σ.tmps.getD 71 undef = .int .i64 b.slot := hg.2.1; unfold Runs execOp; simp [Act.eval, h69, h71, go_sem, k0], rfl⟩) ?_
    refine LinL.step (s := (.val (.bool true))) [(72, some 0)] rfl (by kernel_rfl) (op_copy 72 0 (.val (.bool true)) rfl (.inl rfl) rfl) ?_
    refine LinL.step (s := (.val (.int .i64 s))) [(2, none), (73, some 0)] rfl (by kernel_rfl) (op_yes (reads := [(2, none)]) 6 73 0 true rfl rfl rfl (op_out 2 (.int .i64 s) rfl (.inl rfl) rfl)) ?_
    refine LinL.step (s := (.val (.bool true))) [(74, some 0), (73, some 1)] rfl (by kernel_rfl) (op_yes (reads := [(74, some 0)]) 6 73 1 true rfl rfl rfl (op_runs rfl fun σ w' hx hg => ⟨(.bool true), by have h74 : σ.tmps.getD 74 undef = .int .i64 s := hg.1; unfold Runs execOp; simp [Act.eval, h74, go_sem, k1], rfl⟩)) ?_
    refine LinL.step (s := (.val (.bool true))) [(73, some 2), (75, some 0)] rfl (by kernel_rfl) (op_runs rfl fun σ w' hx hg => ⟨_, runs_pick_t (ρ := σ.eval) (w := w') (.tmp 73) (.tmp 75) (.const (.bool false)) rfl hg.1 hg.2.1, rfl⟩) ?_
    refine LinL.step (s := (.val (.bool true))) [(68, some 8), (76, some 0)] rfl (by kernel_rfl) (op_runs rfl fun σ w' hx hg => ⟨(.bool true), by have h68 : σ.tmps.getD 68 undef = .bool true := hg.1; have h76 : σ.tmps.getD 76 undef = .bool true := hg.2.1; unfold Runs execOp; simp [Act.eval, h68, h76, go_sem], rfl⟩) ?_
    refine LinL.step (s := (.val (.bool true))) [(77, some 0)] rfl (by kernel_rfl) (op_copy 77 0 (.val (.bool true)) rfl (.inr rfl) rfl) ?_
    intro wN hxN
    simp only [Fin', List.reverse_cons, List.reverse_nil, List.nil_append, List.cons_append, List.drop_zero, List.take_succ_cons, List.take_zero]
    simp only [Act.put, List.setIfInBounds_toArray, List.set_cons_zero, List.set_cons_succ]
    replace hX := hX.trans hxN
    go_wp2
    go_ret
    exact Keep.intro ⟨rfl, hX⟩
  · have hch := hide_ (decide_eq_false fun h => k1 (hchild.out.1 h).2)
    go_wp2
    refine wp_region_phx (by kernel_rfl) ?_; intro wd hxd; replace f3 := f3.ext hxd; replace f13 := f13.ext hxd; replace hX := hX.trans hxd
    refine Ph.rest 0 12 (by kernel_rfl) ?_
    refine LinL.step (s := (.val (.agg #[.int .i64 s, .int .i64 b.miner, .int .i64 0, .int .i64 b.nm, .slice none 0 0]))) [(13, none)] rfl (by kernel_rfl) (op_runs rfl fun σ w' hx hg => ⟨_, runs_aload (ρ := σ.eval) (w := w') Try.stBlk (.tmp 13) rfl hg.1 (f13.ext hx) rfl, rfl⟩) ?_
    refine LinL.step (s := (.val (.bool false))) [(67, some 0)] rfl (by kernel_rfl) (op_calls 14 #[(.tmp 67)] #[24] (fun σ => #[.agg #[.int .i64 s, .int .i64 b.miner, .int .i64 0, .int .i64 b.nm, .slice none 0 0]]) rfl rfl (fun _ _ => rfl) fun σ w' hx hg => ⟨by have h67 : σ.tmps.getD 67 undef = .agg #[.int .i64 s, .int .i64 b.miner, .int .i64 0, .int .i64 b.nm, .slice none 0 0] := hg.1; simp only [List.map_toArray, List.map_cons, List.map_nil, Act.eval, h67], rightR (b := ⟨s, b.miner, 0, b.nm, []⟩) (Recs.nilT _) hpn.out hch.out⟩) ?_
    refine LinL.step (s := (.val (.int .i64 s))) [(2, none)] rfl (by kernel_rfl) (op_out 2 (.int .i64 s) rfl (.inl rfl) rfl) ?_
    refine LinL.step (s := (.val (.pointer (some ⟨g3, 0, none⟩)))) [(3, none)] rfl (by kernel_rfl) (op_runs rfl fun σ w' hx hg => ⟨_, runs_field (ρ := σ.eval) (w := w') Try.stBlk (.tmp 3) g3 0 rfl hg.1 (by omega), rfl⟩) ?_
    refine LinL.step (s := (.val (.int .i64 b.slot))) [(70, some 0)] rfl (by kernel_rfl) (op_runs rfl fun σ w' hx hg => ⟨_, runs_fload (ρ := σ.eval) (w := w') (.tmp 70) rfl hg.1 (agg_of (by kernel_rfl) _) (f3.ext hx) rfl, rfl⟩) ?_
    refine LinL.step (s := (.val (.bool true))) [(69, some 2), (71, some 0)] rfl (by kernel_rfl) (op_runs rfl fun σ w' hx hg => ⟨(.bool true), by have h69 : σ.tmps.getD 69 undef = .int .i64 s := hg.1; have h71 : σ.tmps.getD 71 undef = .int .i64 b.slot := hg.2.1; unfold Runs execOp; simp [Act.eval, h69, h71, go_sem, k0], rfl⟩) ?_
    refine LinL.step (s := (.val (.bool true))) [(72, some 0)] rfl (by kernel_rfl) (op_copy 72 0 (.val (.bool true)) rfl (.inl rfl) rfl) ?_
    refine LinL.step (s := (.val (.int .i64 s))) [(2, none), (73, some 0)] rfl (by kernel_rfl) (op_yes (reads := [(2, none)]) 6 73 0 true rfl rfl rfl (op_out 2 (.int .i64 s) rfl (.inl rfl) rfl)) ?_
    refine LinL.step (s := (.val (.bool false))) [(74, some 0), (73, some 1)] rfl (by kernel_rfl) (op_yes (reads := [(74, some 0)]) 6 73 1 true rfl rfl rfl (op_runs rfl fun σ w' hx hg => ⟨(.bool false), by have h74 : σ.tmps.getD 74 undef = .int .i64 s := hg.1; unfold Runs execOp; simp [Act.eval, h74, go_sem, k1], rfl⟩)) ?_
    refine LinL.step (s := (.val (.bool false))) [(73, some 2), (75, some 0)] rfl (by kernel_rfl) (op_runs rfl fun σ w' hx hg => ⟨_, runs_pick_t (ρ := σ.eval) (w := w') (.tmp 73) (.tmp 75) (.const (.bool false)) rfl hg.1 hg.2.1, rfl⟩) ?_
    refine LinL.step (s := (.val (.bool true))) [(68, some 8), (76, some 0)] rfl (by kernel_rfl) (op_runs rfl fun σ w' hx hg => ⟨(.bool true), by have h68 : σ.tmps.getD 68 undef = .bool false := hg.1; have h76 : σ.tmps.getD 76 undef = .bool false := hg.2.1; unfold Runs execOp; simp [Act.eval, h68, h76, go_sem], rfl⟩) ?_
    refine LinL.step (s := (.val (.bool true))) [(77, some 0)] rfl (by kernel_rfl) (op_copy 77 0 (.val (.bool true)) rfl (.inr rfl) rfl) ?_
    intro wN hxN
    simp only [Fin', List.reverse_cons, List.reverse_nil, List.nil_append, List.cons_append, List.drop_zero, List.take_succ_cons, List.take_zero]
    simp only [Act.put, List.setIfInBounds_toArray, List.set_cons_zero, List.set_cons_succ]
    replace hX := hX.trans hxN
    go_wp2
    go_ret
    exact Keep.intro ⟨rfl, hX⟩

set_option maxRecDepth 100000 in
theorem blockCuts_lifted (os : Os) (started : os.Started) (H : Type) (enc : TypeId × Value → H) :
    ReturnsInHanded {} Try.checked os 9 .any (Rows.blockCutsSpec.pre6 enc Try.prog Try.f9 Rows.blockCutsRow.domain false) (Rows.blockCutsSpec.post enc Try.prog Try.f9 false true false false) := by
  refine law_lifted (s := Rows.blockCutsSpec) (conds := Rows.blockCutsRow.domain) Try.func9 (by kernel_rfl) rfl (fun H ds h => by
      rw [show Try.f9.params.size = 3 from rfl] at h
      match ds, h with
      | [d0, d1, d2], _ => rfl) rfl rfl (by decide +kernel) os started H enc
    (ChangeSpec.witness6 (enc := enc) (C := Try.checked) false ⟨#[], #[.agg #[.int .i64 0, .int .i64 0, .int .i64 0, .int .i64 0, .slice none 0 0], .int .i64 0, .int .i64 0], []⟩ 8 (by kernel_rfl) (by kernel_rfl) (by kernel_rfl) (by kernel_rfl)) ?_
  intro W base args ds p hval hA hsz _
  have hp : Try.f9.params.toList = [24, 3, 3] := rfl
  rw [hp] at hA hsz
  obtain ⟨v0, v1, v2, d0, d1, d2, p0, p1, p2, rfl, rfl, rfl, h0, h1, h2⟩ := trodAll_three hA
  obtain ⟨row0, b0, rfl, n0, k0⟩ := arg_Blk hsz (j := 0) rfl rfl (hval 0 24 v0 rfl rfl) h0
  obtain ⟨a1, rfl, b1, c1⟩ := arg_int (hval 1 3 v1 rfl rfl) h1
  obtain ⟨a2, rfl, b2, c2⟩ := arg_int (hval 2 3 v2 rfl rfl) h2
  exact blockCuts_law row0 b0 a1 a2 W k0 ⟨b1, c1⟩ ⟨b2, c2⟩

theorem blockCuts_holds : Rows.BlockCutsSaid :=
  OpenClaim.holds_of_wide 9 Try.f9 rfl rfl rfl rfl rfl rfl rfl ⟨rfl, rfl, rfl, rfl, rfl⟩ rfl rfl rfl rfl rfl (by kernel_rfl) Try.func9 (by kernel_rfl)
    (of_decide_eq_true (by kernel_rfl)) (by unfold Func.isWrapper; first | (rw [if_pos (by decide +kernel)]; kernel_rfl) | (rw [if_neg (by decide +kernel)]; exact ⟨rfl, rfl⟩))
    (fun os started H enc _ => blockCuts_lifted os started H enc)
#print axioms blockCuts_holds

end Go.Proofs.Ytcjmcnepfnhnlaa
