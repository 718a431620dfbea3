/- The statement TreeTurns: few blocks of unlike names are known in whichever order they come. No condition. -/
import Derived.Test.YtabelhoncmnpgaaTLu
namespace Go.Proofs.Ytabelhoncmnpgaa
set_option maxRecDepth 100000
open Go.RowKit Go.ChangeShapes Go.WideShapes Go.ChangeAt

set_option maxRecDepth 100000 in
set_option maxHeartbeats 6400000 in
theorem treeTurns_law (v0 : Value) (l : List BlkD) (turn : Int) (W : World) (hl00 : Recs 5 BlkL W v0 l) (ht : I64 turn) : Calls Try.prog 6 #[v0, .int .i64 turn] W fun e w' => e = .returned (.bool true) ∧ Ext W w' := by
  refine calls_keep ?_
  have hl0 := hide_ hl00
  have hmax := hl00.len_le
  unfold maxLen at hmax
  have hraws := hide_ (fun k d (h : l[k]? = some d) => blks_at hl00 h)
  clear hl00
  obtain ⟨ht1, ht2⟩ := ht
  by_cases hbig : 16 < l.length
  · have t1 : decide ((16 : Int) < (l.length : Int)) = true := decide_eq_true (by omega)
    go_enter Try.func6, Try.ntmps6
    go_wp2_with ((first
      | (go_at_call 11; refine (treeAlive_any _).mono ?_; rintro e w2 ⟨rfl, hX⟩)
      | ((with_reducible refine at_bi ?_); have _t := hX; refine w_rlen Try.enBlk.elS _ rfl rfl rfl (hl0.out.ext BlkL.stays hX) ?_)
      | fail) <;> (try simp only [Act.put, List.setIfInBounds_toArray, List.set_cons_zero, List.set_cons_succ]))
    go_ret
    exact Keep.intro ⟨rfl, hX⟩
  have t1 : decide ((16 : Int) < (l.length : Int)) = false := decide_eq_false (by omega)
  by_cases hneg : turn < 0
  · have t2 : decide (turn < 0) = true := decide_eq_true hneg
    go_enter Try.func6, Try.ntmps6
    go_wp2_with ((first
      | (go_at_call 11; refine (treeAlive_any _).mono ?_; rintro e w2 ⟨rfl, hX⟩)
      | ((with_reducible refine at_bi ?_); have _t := hX; refine w_rlen Try.enBlk.elS _ rfl rfl rfl (hl0.out.ext BlkL.stays hX) ?_)
      | fail) <;> (try simp only [Act.put, List.setIfInBounds_toArray, List.set_cons_zero, List.set_cons_succ]))
    go_ret
    exact Keep.intro ⟨rfl, hX⟩
  obtain ⟨T, rfl⟩ := Int.eq_ofNat_of_zero_le (show 0 ≤ turn by omega)
  have t2 : decide ((T : Int) < 0) = false := decide_eq_false hneg
  have tok1 : True := trivial
  go_enter Try.func6, Try.ntmps6
  go_wp2_with ((first
    | (go_at_call 10; have _t := tok1; refine (New_any (w := _)).mono ?_; rintro e w1 ⟨p1, Ga, rfl, hTa, hxa, hGa⟩; clear tok1)
    | (go_at_call 10; refine (New_any (w := _)).mono ?_; rintro e w2 ⟨p2, Gb, rfl, hTb, hxb, hGb⟩; obtain ⟨G10, G20, hT⟩ := Two.start hX hTa hxa hGa hTb hxb hGb; clear hX hTa hxa hGa hTb hxb hGb)
    | (go_at_call 11; refine (treeAlive_any _).mono ?_; rintro e w2 ⟨rfl, hX⟩)
    | ((with_reducible refine at_bi ?_); have _t := hX; refine w_rlen Try.enBlk.elS _ rfl rfl rfl (hl0.out.ext BlkL.stays hX) ?_)
    | ((with_reducible refine at_bi ?_); refine w_rlen Try.enBlk.elS _ rfl rfl rfl (hl0.out.ext BlkL.stays hT.ext) ?_)
    | fail) <;> (try simp only [Act.put, List.setIfInBounds_toArray, List.set_cons_zero, List.set_cons_succ]))
  go_loopw [25] (fun i wr => ∃ (k : Nat) (G1 : Nat → Prop), i = .int .i64 k ∧ k ≤ l.length ∧ Two W G1 G20 wr p1 p2 (st l k).known (st l k).wait [] [] ∧ ((l.take k).map BlkD.name).Nodup) (fun i _ => l.length - (RowKit.intOf i).toNat)
  case atStart => exact ⟨0, G10, rfl, Nat.zero_le _, by rw [st_zero]; exact hT, by simp⟩
  case round =>
    clear hT
    obtain ⟨k, G1, rfl, hk, hT, hnd⟩ := hrel
    by_cases hge : l.length ≤ k
    rotate_left
    · have hlt : k < l.length := by omega
      have t3 : decide (k < l.length) = true := by simpa using hlt
      obtain ⟨d, hd0⟩ : ∃ d, l[k]? = some d := ⟨_, List.getElem?_eq_getElem hlt⟩
      have hraw := hide_ (hraws.out k d hd0)
      have hst := hide_ (st_succ hd0)
      have hV16 := hide_ (st_good l k).few
      have hk32 := hide_ (show (l.take k).length = k by simp; omega)
      have hnd' := hide_ hnd
      have hlt' := hide_ hlt
      have hle' := hide_ hk
      have hd := hide_ hd0
      have tok8 : True := trivial
      clear hge hlt hd0 hnd hmax
      go_wp2_with ((first
        | ((with_reducible refine at_idx ?_); have _t := tok8; refine w_lidx0 Try.enBlk.elS _ _ k rfl rfl rfl rfl hl0.out hT.ext hd.out ?_; intro pa u hrow hu; have hone := blk_one (a := d.slot) (b := d.miner) (c := d.var) (d := d.parent) hu.one'; replace hrow := hide_ hrow; replace hu := hide_ hu; clear tok8)
        | ((with_reducible refine at_load ?_); refine w_pload Try.stBlk _ rfl rfl rfl hrow.out rfl ?_)
        | ((with_reducible refine at_alloc ?_); refine w_alloc Try.stBlk rfl rfl ?_; intro g8 w2 hg2 hx2 f8)
        | ((with_reducible refine at_store ?_); refine w_astore Try.stBlk _ _ (us := bRow d u) rfl rfl rfl rfl rfl f8 rfl rfl hone ?_; intro w3 hm3 f3; replace f8 : Fs w3 g8 (bRow d u) := f3; replace hx2 := hm3.after hx2 (fun i hi => by subst hi; exact hg2); replace hT := hT.extend hx2; clear hm3 f3 hx2 hrow hg2 hone)
        | ((with_reducible refine at_cut ?_); refine w_nto0 Try.enBlk.elS _ _ k rfl rfl rfl rfl hl0.out hle'.out ?_; intro v32 h32; replace h32 := hide_ h32)
        | ((with_reducible refine at_bi ?_); refine w_rlen Try.enBlk.elS _ rfl rfl rfl (h32.out.ext BlkL.stays hT.ext) ?_; rw [hk32.out])
        | fail) <;> (try simp only [Act.put, List.setIfInBounds_toArray, List.set_cons_zero, List.set_cons_succ]))
      go_loopw [34] (fun i wx => ∃ j : Nat, i = .int .i64 j ∧ j ≤ k ∧ Two W G1 G20 wx p1 p2 (st l k).known (st l k).wait [] [] ∧ Fs wx g8 (bRow d u) ∧ ∀ i x, i < j → l[i]? = some x → x.name ≠ d.name) (fun i _ => k - (RowKit.intOf i).toNat)
      case atStart => exact ⟨0, rfl, Nat.zero_le _, hT, f8, fun i x h => absurd h (by omega)⟩
      case round =>
        clear hT f8
        obtain ⟨j, rfl, hj, hT, f8, hne⟩ := hrel
        by_cases hge2 : k ≤ j
        rotate_left
        · have hltj : j < k := by omega
          have t4 : decide (j < k) = true := by simpa using hltj
          obtain ⟨x, hx0⟩ : ∃ x, l[j]? = some x := ⟨_, List.getElem?_eq_getElem (by have := hlt'.out; omega)⟩
          have hxt := hide_ (show (l.take k)[j]? = some x by rw [List.getElem?_take_of_lt hltj]; exact hx0)
          have hraw2 := hide_ (hraws.out j x hx0)
          obtain ⟨dn, hdn⟩ : ∃ n, d.name = n := ⟨_, rfl⟩
          obtain ⟨xn, hxn⟩ : ∃ n, x.name = n := ⟨_, rfl⟩
          have hne' := hide_ hne
          have hx0' := hide_ hx0
          have hltj' := hide_ hltj
          have hB1 := hide_ (fun w' (h : Ext W w') => hdn ▸ BName_any (hu.out.ext TxR.stays h) hraw.out.1.parent)
          have hdn' := hide_ hdn
          have hxn' := hide_ hxn
          clear hge2 hltj hx0 hne hdn hxn
          cases c1 : (dn == xn)
          all_goals go_wp2_with ((first
            | ((with_reducible refine at_idx ?_); refine w_lidx0 Try.enBlk.elS _ _ j rfl rfl rfl rfl h32.out hT.ext hxt.out ?_; intro pb u2 hrow hu2; have hone := blk_one (a := x.slot) (b := x.miner) (c := x.var) (d := x.parent) hu2.one'; replace hrow := hide_ hrow; replace hu2 := hide_ hu2)
            | ((with_reducible refine at_load ?_); refine w_pload Try.stBlk _ rfl rfl rfl hrow.out rfl ?_)
            | ((with_reducible refine at_alloc ?_); refine w_alloc Try.stBlk rfl rfl ?_; intro g10 w2 hg2 hx2 f10)
            | ((with_reducible refine at_store ?_); refine w_astore Try.stBlk _ _ (us := bRow x u2) rfl rfl rfl rfl rfl f10 rfl rfl hone ?_; intro w3 hm3 f3; replace f10 : Fs w3 g10 (bRow x u2) := f3; replace hx2 := hm3.after hx2 (fun i hi => by subst hi; exact hg2); replace hT := hT.extend hx2; replace f8 := f8.ext hx2; clear hm3 f3 hx2 hrow hg2 hone)
            | fail) <;> (try simp only [Act.put, List.setIfInBounds_toArray, List.set_cons_zero, List.set_cons_succ]))
          all_goals have hB2 := hide_ (fun w' (h : Ext W w') => hxn'.out ▸ BName_any (hu2.out.ext TxR.stays h) hraw2.out.1.parent)
          all_goals have hX := hT.ext
          · refine wp_region_phx (by kernel_rfl) ?_; intro wd hxd; have F8 := f8.ext hxd; have F10 := f10.ext hxd
            refine Ph.rest 0 5 (by kernel_rfl) ?_
            refine LinL.step (s := (.val (.agg #[.int .i64 d.slot, .int .i64 d.miner, .int .i64 d.var, .int .i64 d.parent, u]))) [(8, none)] rfl (by kernel_rfl) (op_runs rfl fun σ w' hx hg => ⟨_, runs_aload (ρ := σ.eval) (w := w') Try.stBlk (.tmp 8) rfl hg.1 (F8.ext hx) rfl, rfl⟩) ?_
            refine LinL.step (s := (.val (.int .i64 dn))) [(38, some 0)] rfl (by kernel_rfl) (op_calls 38 #[(.tmp 38)] #[34] (fun σ => #[.agg #[.int .i64 d.slot, .int .i64 d.miner, .int .i64 d.var, .int .i64 d.parent, u]]) rfl rfl (fun _ _ => rfl) fun σ w' hx hg => ⟨by have h38 : σ.tmps.getD 38 undef = .agg #[.int .i64 d.slot, .int .i64 d.miner, .int .i64 d.var, .int .i64 d.parent, u] := hg.1; simp only [List.map_toArray, List.map_cons, List.map_nil, Act.eval, h38], retH (hB1.out w' (hX.trans (hxd.trans hx)))⟩) ?_
            refine LinL.step (s := (.val (.agg #[.int .i64 x.slot, .int .i64 x.miner, .int .i64 x.var, .int .i64 x.parent, u2]))) [(10, none)] rfl (by kernel_rfl) (op_runs rfl fun σ w' hx hg => ⟨_, runs_aload (ρ := σ.eval) (w := w') Try.stBlk (.tmp 10) rfl hg.1 (F10.ext hx) rfl, rfl⟩) ?_
            refine LinL.step (s := (.val (.int .i64 xn))) [(40, some 0)] rfl (by kernel_rfl) (op_calls 38 #[(.tmp 40)] #[34] (fun σ => #[.agg #[.int .i64 x.slot, .int .i64 x.miner, .int .i64 x.var, .int .i64 x.parent, u2]]) rfl rfl (fun _ _ => rfl) fun σ w' hx hg => ⟨by have h40 : σ.tmps.getD 40 undef = .agg #[.int .i64 x.slot, .int .i64 x.miner, .int .i64 x.var, .int .i64 x.parent, u2] := hg.1; simp only [List.map_toArray, List.map_cons, List.map_nil, Act.eval, h40], retH (hB2.out w' (hX.trans (hxd.trans hx)))⟩) ?_
            refine LinL.step (s := (.val (.bool false))) [(39, some 2), (41, some 0)] rfl (by kernel_rfl) (op_runs rfl fun σ w' hx hg => ⟨(.bool false), by have h39 : σ.tmps.getD 39 undef = .int .i64 dn := hg.1; have h41 : σ.tmps.getD 41 undef = .int .i64 xn := hg.2.1; unfold Runs execOp; simp [Act.eval, h39, h41, go_sem, c1], rfl⟩) ?_
            intro wN hxN
            simp only [Fin', List.reverse_cons, List.reverse_nil, List.nil_append, List.cons_append, List.drop_zero, List.take_succ_cons, List.take_zero]
            simp only [Act.put, List.setIfInBounds_toArray, List.set_cons_zero, List.set_cons_succ]
            replace hT := hT.extend (hxd.trans hxN)
            replace f8 := f8.ext (hxd.trans hxN)
            clear hX hxd hxN F8 F10 f10
            go_wp2
            go_roundw
            case rel =>
              refine ⟨j + 1, by go_num, hltj'.out, hT, f8, fun i y hi hy => ?_⟩
              rcases Nat.lt_succ_iff_lt_or_eq.1 hi with h | rfl
              · exact hne'.out i y h hy
              · rw [hx0'.out] at hy
                injection hy with hy
                subst hy
                rw [hxn'.out, hdn'.out]
                intro e
                rw [e] at c1
                simp at c1
            case measure => have := hltj'.out; simp [RowKit.intOf]; omega
          · refine wp_region_phx (by kernel_rfl) ?_; intro wd hxd; have F8 := f8.ext hxd; have F10 := f10.ext hxd
            refine Ph.rest 0 5 (by kernel_rfl) ?_
            refine LinL.step (s := (.val (.agg #[.int .i64 d.slot, .int .i64 d.miner, .int .i64 d.var, .int .i64 d.parent, u]))) [(8, none)] rfl (by kernel_rfl) (op_runs rfl fun σ w' hx hg => ⟨_, runs_aload (ρ := σ.eval) (w := w') Try.stBlk (.tmp 8) rfl hg.1 (F8.ext hx) rfl, rfl⟩) ?_
            refine LinL.step (s := (.val (.int .i64 dn))) [(38, some 0)] rfl (by kernel_rfl) (op_calls 38 #[(.tmp 38)] #[34] (fun σ => #[.agg #[.int .i64 d.slot, .int .i64 d.miner, .int .i64 d.var, .int .i64 d.parent, u]]) rfl rfl (fun _ _ => rfl) fun σ w' hx hg => ⟨by have h38 : σ.tmps.getD 38 undef = .agg #[.int .i64 d.slot, .int .i64 d.miner, .int .i64 d.var, .int .i64 d.parent, u] := hg.1; simp only [List.map_toArray, List.map_cons, List.map_nil, Act.eval, h38], retH (hB1.out w' (hX.trans (hxd.trans hx)))⟩) ?_
            refine LinL.step (s := (.val (.agg #[.int .i64 x.slot, .int .i64 x.miner, .int .i64 x.var, .int .i64 x.parent, u2]))) [(10, none)] rfl (by kernel_rfl) (op_runs rfl fun σ w' hx hg => ⟨_, runs_aload (ρ := σ.eval) (w := w') Try.stBlk (.tmp 10) rfl hg.1 (F10.ext hx) rfl, rfl⟩) ?_
            refine LinL.step (s := (.val (.int .i64 xn))) [(40, some 0)] rfl (by kernel_rfl) (op_calls 38 #[(.tmp 40)] #[34] (fun σ => #[.agg #[.int .i64 x.slot, .int .i64 x.miner, .int .i64 x.var, .int .i64 x.parent, u2]]) rfl rfl (fun _ _ => rfl) fun σ w' hx hg => ⟨by have h40 : σ.tmps.getD 40 undef = .agg #[.int .i64 x.slot, .int .i64 x.miner, .int .i64 x.var, .int .i64 x.parent, u2] := hg.1; simp only [List.map_toArray, List.map_cons, List.map_nil, Act.eval, h40], retH (hB2.out w' (hX.trans (hxd.trans hx)))⟩) ?_
            refine LinL.step (s := (.val (.bool true))) [(39, some 2), (41, some 0)] rfl (by kernel_rfl) (op_runs rfl fun σ w' hx hg => ⟨(.bool true), by have h39 : σ.tmps.getD 39 undef = .int .i64 dn := hg.1; have h41 : σ.tmps.getD 41 undef = .int .i64 xn := hg.2.1; unfold Runs execOp; simp [Act.eval, h39, h41, go_sem, c1], rfl⟩) ?_
            intro wN hxN
            simp only [Fin', List.reverse_cons, List.reverse_nil, List.nil_append, List.cons_append, List.drop_zero, List.take_succ_cons, List.take_zero]
            simp only [Act.put, List.setIfInBounds_toArray, List.set_cons_zero, List.set_cons_succ]
            replace hX := hX.trans (hxd.trans hxN)
            clear hxd hxN F8 F10 f10
            go_wp2
            go_ret
            exact Keep.intro ⟨rfl, hX⟩
        obtain rfl : k = j := by omega
        have t4 : decide (k < k) = false := by simp
        have hnd2 := hide_ (show ((l.take (k + 1)).map BlkD.name).Nodup by
          rw [List.take_add_one, hd.out, List.map_append]
          refine List.nodup_append.2 ⟨hnd'.out, by simp, fun a ha b hb e => ?_⟩
          simp at hb
          subst hb e
          obtain ⟨i, hi, he⟩ := List.getElem_of_mem ha
          have hi2 : i < k := by simp at hi; omega
          simp at he
          exact hne i l[i] hi2 (List.getElem?_eq_getElem (by have := hlt'.out; omega)) he)
        clear hne hge2 hj
        go_wp2_with ((first
          | (go_at_call 17; refine (BCopy_any (b := d) (hu.out.ext TxR.stays hT.ext) hraw.out.2).mono ?_; rintro e w5 ⟨uc, rfl, oc, hx⟩; replace oc := oc.recs; replace hT := hT.extend hx; clear hx f8)
          | (go_at_call 18; refine (Add_any (b := d) (u := uc) hT.a hV16.out oc hraw.out.1).mono ?_; rintro e w6 ⟨v', G', rfl, _, hT', hU⟩; rw [← hst.out] at hT'; replace hT := hT.addA hU hT'; clear hT' hU oc)
          | ((with_reducible refine at_load ?_); refine w_aload Try.stBlk _ rfl rfl rfl f8 rfl ?_)
          | fail) <;> (try simp only [Act.put, List.setIfInBounds_toArray, List.set_cons_zero, List.set_cons_succ]))
        go_roundw
        case rel => exact ⟨k + 1, G', by go_num, hlt'.out, hT, hnd2.out⟩
        case measure => have := hlt'.out; simp [RowKit.intOf]; omega
    obtain rfl : k = l.length := by omega
    have t3 : decide (l.length < l.length) = false := by simp
    rw [List.take_length] at hnd
    obtain ⟨c, hc⟩ : ∃ c, T % 1000 + l.length - 1 = c := ⟨_, rfl⟩
    have hfin := TrS.turns_eq (by omega) hnd (TrS.turned_perm l c)
    have hmat := hide_ (fun i (h : i < l.length) => TrS.turned_at (c := c) h (by omega))
    have hml := (TrS.turned_perm l c).length_eq
    obtain ⟨m, hm⟩ : ∃ m, TrS.turned l c = m := ⟨_, rfl⟩
    rw [hm] at hfin hmat hml
    rw [← hml] at hfin
    have hc1 := hide_ (st_good l l.length).calm
    have hc2 := hide_ (st_good m l.length).calm
    obtain ⟨f1, f2, f3, f4⟩ := hfin
    obtain ⟨N, hN⟩ : ∃ N, TrS.names (st l l.length).known = N := ⟨_, rfl⟩
    obtain ⟨Tp, hTp⟩ : ∃ N, TrS.tip (st l l.length).known = N := ⟨_, rfl⟩
    obtain ⟨q, hq⟩ : ∃ N, (st l l.length).wait.length = N := ⟨_, rfl⟩
    obtain ⟨Mi, hMi⟩ : ∃ N, TrS.missing ⟨(st l l.length).known, (st l l.length).wait⟩ = N := ⟨_, rfl⟩
    have hN1 := hide_ hN
    have hN2 := hide_ (f1.symm.trans hN)
    have hT1 := hide_ hTp
    have hT2 := hide_ (f2.symm.trans hTp)
    have hq1 := hide_ hq
    have hq2 := hide_ (f3.symm.trans hq)
    have hM1 := hide_ hMi
    have hM2 := hide_ (show TrS.missing ⟨(st m l.length).known, (st m l.length).wait⟩ = Mi from f4.symm.trans hMi)
    obtain ⟨S, hS⟩ : ∃ S, st l l.length = S := ⟨_, rfl⟩
    rw [hS] at hT hN1 hT1 hq1 hM1 hc1
    obtain ⟨K, V⟩ := S
    have hml' := hide_ hml
    have hc' := hide_ hc
    clear hS hc hN hTp hq hMi f1 f2 f3 f4 hm hnd hge hk hml
    replace hT : Two W G1 G20 wr p1 p2 K V [] [] := hT
    go_wp2_with ((first
      | ((with_reducible refine at_bi ?_); refine w_rlen Try.enBlk.elS _ rfl rfl rfl (hl0.out.ext BlkL.stays hT.ext) ?_)
      | fail) <;> (try simp only [Act.put, List.setIfInBounds_toArray, List.set_cons_zero, List.set_cons_succ]))
    go_loopw [51] (fun i wx => ∃ (i' : Nat) (G2 : Nat → Prop), i = .int .i64 i' ∧ i' ≤ l.length ∧ Two W G1 G2 wx p1 p2 K V (st m i').known (st m i').wait) (fun i _ => l.length - (RowKit.intOf i).toNat)
    case atStart => exact ⟨0, G20, rfl, Nat.zero_le _, by rw [st_zero]; exact hT⟩
    case round =>
      clear hT
      obtain ⟨k, G2, rfl, hk, hT⟩ := hrel
      by_cases hge : l.length ≤ k
      rotate_left
      · have hlt : k < l.length := by omega
        have t4 : decide (k < l.length) = true := by simpa using hlt
        obtain ⟨r, hr⟩ : ∃ r, (c - k) % l.length = r := ⟨_, rfl⟩
        have hrlt : r < l.length := hr ▸ Nat.mod_lt _ (by omega)
        obtain ⟨d, hd0⟩ : ∃ d, l[r]? = some d := ⟨_, List.getElem?_eq_getElem hrlt⟩
        have hmd : m[k]? = some d := by rw [hmat.out k hlt, hr]; exact hd0
        have hraw := hide_ (hraws.out r d hd0)
        have hst := hide_ (st_succ hmd)
        have hV16 := hide_ (st_good m k).few
        have hlt' := hide_ hlt
        have hd := hide_ hd0
        have hr' := hide_ hr
        have hc := hc'.out
        obtain ⟨z, hz⟩ : ∃ z, T % 1000 = z := ⟨_, rfl⟩
        have hz' := hide_ hz
        rw [hz] at hc
        have hzl : z < 1000 := by omega
        clear hge hd0 hmd hr hz
        have tokA : True := trivial
        go_wp2_with ((first
          | ((with_reducible refine at_bin ?_); have _t := tokA; refine w_rem (p := T) (q := 1000) (r := z) _ _ rfl rfl rfl rfl rfl rfl (by omega) hz'.out ?_; clear tokA)
          | ((with_reducible refine at_bin ?_); refine w_rem (p := c - k) (q := l.length) (r := r) _ _ rfl rfl rfl rfl (by omega) rfl (by omega) hr'.out ?_)
          | ((with_reducible refine at_idx ?_); refine w_lidx0 Try.enBlk.elS _ _ r rfl rfl rfl rfl hl0.out hT.ext hd.out ?_; intro pa u hrow hu; replace hrow := hide_ hrow; replace hu := hide_ hu)
          | ((with_reducible refine at_load ?_); refine w_pload Try.stBlk _ rfl rfl rfl hrow.out rfl ?_)
          | ((with_reducible refine at_bi ?_); refine w_rlen Try.enBlk.elS _ rfl rfl rfl (hl0.out.ext BlkL.stays hT.ext) ?_)
          | (go_at_call 17; refine (BCopy_any (b := d) (hu.out.ext TxR.stays hT.ext) hraw.out.2).mono ?_; rintro e w5 ⟨uc, rfl, oc, hx⟩; replace oc := oc.recs; replace hT := hT.extend hx; clear hx)
          | (go_at_call 18; refine (Add_any (b := d) (u := uc) hT.b hV16.out oc hraw.out.1).mono ?_; rintro e w6 ⟨v', G', rfl, _, hT', hU⟩; rw [← hst.out] at hT'; replace hT := hT.addB hU hT'; clear hT' hU oc)
          | fail) <;> (try simp only [Act.put, List.setIfInBounds_toArray, List.set_cons_zero, List.set_cons_succ]))
        go_roundw
        case rel => exact ⟨k + 1, G', by go_num, hlt'.out, hT⟩
        case measure => have := hlt'.out; simp [RowKit.intOf]; omega
      obtain rfl : k = l.length := by omega
      have t4 : decide (l.length < l.length) = false := by simp
      obtain ⟨S2, hS2⟩ : ∃ S, st m l.length = S := ⟨_, rfl⟩
      rw [hS2] at hT hN2 hT2 hq2 hM2 hc2
      obtain ⟨K2, V2⟩ := S2
      replace hT : Two W G1 G2 _ p1 p2 K V K2 V2 := hT
      obtain ⟨wa, hwa⟩ : ∃ wa, V.map BlkD.name = wa := ⟨_, rfl⟩
      obtain ⟨wb, hwb⟩ : ∃ wa, V2.map BlkD.name = wa := ⟨_, rfl⟩
      have hwal := hide_ (show wa.length = q by rw [← hwa, List.length_map]; exact hq1.out)
      have hwbl := hide_ (show wb.length = q by rw [← hwb, List.length_map]; exact hq2.out)
      have hwa' := hide_ hwa
      have hwb' := hide_ hwb
      clear hS2 hge hk hwa hwb hmat hml'
      go_wp2_with ((first
        | (go_at_call 13; (with_reducible refine (Names_any hT.a).mono ?_); rintro e w5 ⟨v73, rfl, o73, hx⟩; rw [hN1.out] at o73; replace o73 := o73.ints; replace hT := hT.extend hx; clear hx)
        | (go_at_call 13; (with_reducible refine (Names_any hT.b).mono ?_); rintro e w5 ⟨v75, rfl, o75, hx⟩; rw [hN2.out] at o75; replace o75 := o75.ints; replace hT := hT.extend hx; replace o73 := o73.ext hx; clear hx)
        | (go_at_call 12; (with_reducible refine (Tip_any hT.a).mono ?_); rintro e w5 ⟨rfl, hx⟩; rw [hT1.out]; replace hT := hT.extend hx; clear hx)
        | (go_at_call 12; (with_reducible refine (Tip_any hT.b).mono ?_); rintro e w5 ⟨rfl, hx⟩; rw [hT2.out]; replace hT := hT.extend hx; clear hx)
        | (go_at_call 14; (with_reducible refine (Waiting_any hT.a).mono ?_); rintro e w5 ⟨v86, rfl, o86, hx⟩; rw [hwa'.out] at o86; replace o86 := o86.ints; replace hT := hT.extend hx; clear hx)
        | (go_at_call 14; (with_reducible refine (Waiting_any hT.b).mono ?_); rintro e w5 ⟨v89, rfl, o89, hx⟩; rw [hwb'.out] at o89; replace o89 := o89.ints; replace hT := hT.extend hx; clear hx)
        | (go_at_call 15; (with_reducible refine (Missing_any hT.a hc1.out).mono ?_); rintro e w5 ⟨v95, rfl, o95, hx⟩; rw [hM1.out] at o95; replace o95 := o95.ints; replace hT := hT.extend hx; clear hx)
        | (go_at_call 15; (with_reducible refine (Missing_any hT.b hc2.out).mono ?_); rintro e w5 ⟨v97, rfl, o97, hx⟩; rw [hM2.out] at o97; replace o97 := o97.ints; replace hT := hT.extend hx; replace o95 := o95.ext hx; clear hx)
        | (go_at_call 20; (with_reducible refine (SameInts_any v73 v75 N _ o73 o75).mono ?_); rintro e w5 ⟨rfl, hx⟩; replace hT := hT.extend hx; clear hx o73 o75)
        | (go_at_call 20; (with_reducible refine (SameInts_any v95 v97 Mi _ o95 o97).mono ?_); rintro e w5 ⟨rfl, hx⟩; replace hT := hT.extend hx; clear hx o95 o97)
        | ((with_reducible refine at_bi ?_); (try refine w_yes _ _ _ rfl rfl rfl ?_); refine i_len _ rfl rfl (v := v86) rfl o86 ?_; rw [hwal.out])
        | ((with_reducible refine at_bi ?_); (try refine w_yes _ _ _ rfl rfl rfl ?_); refine i_len _ rfl rfl (v := v89) rfl o89 ?_; rw [hwbl.out])
        | fail) <;> (try simp only [Act.put, List.setIfInBounds_toArray, List.set_cons_zero, List.set_cons_succ]))
      go_ret
      exact Keep.intro ⟨rfl, hT.ext⟩

set_option maxRecDepth 100000 in
theorem treeTurns_lifted (os : Os) (started : os.Started) (H : Type) (enc : TypeId × Value → H) :
    ReturnsInHanded {} Try.checked os 6 .any (Rows.treeTurnsSpec.pre6 enc Try.prog Try.f6 Rows.treeTurnsRow.domain false) (Rows.treeTurnsSpec.post enc Try.prog Try.f6 false true false false) := by
  refine law_lifted (s := Rows.treeTurnsSpec) (conds := Rows.treeTurnsRow.domain) Try.func6 (by kernel_rfl) rfl (fun H ds h => by
      rw [show Try.f6.params.size = 2 from rfl] at h
      match ds, h with
      | [d0, d1], _ => rfl) rfl rfl (by decide +kernel) os started H enc
    (ChangeSpec.witness6 (enc := enc) (C := Try.checked) false ⟨#[], #[.slice none 0 0, .int .i64 0], []⟩ 8 (by kernel_rfl) (by kernel_rfl) (by kernel_rfl) (by kernel_rfl)) ?_
  intro W base args ds p hval hA hsz _
  have hp : Try.f6.params.toList = [29, 3] := rfl
  rw [hp] at hA hsz
  obtain ⟨v0, v1, d0, d1, p0, p1, rfl, rfl, rfl, h0, h1⟩ := trodAll_two hA
  obtain ⟨l0, k0⟩ := arg_Blks hsz (j := 0) rfl rfl (hval 0 29 v0 rfl rfl) h0
  obtain ⟨a1, rfl, b1, c1⟩ := arg_int (hval 1 3 v1 rfl rfl) h1
  exact treeTurns_law v0 l0 a1 W k0 ⟨b1, c1⟩

theorem treeTurns_holds : Rows.TreeTurnsSaid :=
  OpenClaim.holds_of_wide 6 Try.f6 rfl rfl rfl rfl rfl rfl rfl ⟨rfl, rfl, rfl, rfl, rfl⟩ rfl rfl rfl rfl rfl (by kernel_rfl) Try.func6 (by kernel_rfl)
    (of_decide_eq_true (by kernel_rfl)) (by unfold Func.isWrapper; first | (rw [if_pos (by decide +kernel)]; kernel_rfl) | (rw [if_neg (by decide +kernel)]; exact ⟨rfl, rfl⟩))
    (fun os started H enc _ => treeTurns_lifted os started H enc)
#print axioms treeTurns_holds

end Go.Proofs.Ytabelhoncmnpgaa
