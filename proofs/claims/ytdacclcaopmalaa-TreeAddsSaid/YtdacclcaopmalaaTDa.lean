/- The document's tree of blocks: what it finds, what waits. -/
import Derived.Test.YtdacclcaopmalaaTLh
namespace Go.Proofs.Ytdacclcaopmalaa
set_option maxRecDepth 100000
open Go.RowKit Go.ChangeShapes Go.WideShapes Go.ChangeAt

theorem Try.stDoc : St Try.prog 52 2 [.slice none 0 0, .slice none 0 0] := St.of (by kernel_rfl) (by kernel_rfl) rfl
/-- &l[i] of blocks from outside. -/
theorem w_didx {P : Program} {ops : Array Oper} {rest : List Oper} {o : Oper} {a : Act} {Q : Exit → Act → World → Prop} {w W0 : World} {t e : TypeId} {v : Value} {l : List BlkD} (E : ElS P t e 5) (x y : Operand) (i : Nat) (hgd : o.guard = none) (ho : o.op = .indexAddr t x y) (hv : a.eval x = v) (hy : a.eval y = .int .i64 i)
    (h : Recs 5 BlkR W0 v l) (he : Ext W0 w) {d : BlkD} (hd : l[i]? = some d) (k : ∀ p u, RowAt w p (bRow d u) → Recs 2 TxR W0 u d.txs → d.Raw → wpList P ops Q rest (a.put o.dst (.pointer (some p))) w) : wpList P ops Q (o :: rest) a w := by
  have hi := (List.getElem?_eq_some_iff.1 hd).1
  have e : l[i] = d := (List.getElem?_eq_some_iff.1 hd).2
  refine w_ridx0 E x y i BlkR.stays hgd ho hv hy h he hi ?_
  rintro pa row hrow _ ⟨⟨u, rfl, hu⟩, hraw⟩
  rw [e] at hrow hu hraw
  exact k pa u (hrow.ext he) hu hraw
theorem get_first {K : List BlkD} {n : Int} {k : Nat} {d : BlkD} (hd : K[k]? = some d) (hn : d.name = n) (hne : ∀ j x, j < k → K[j]? = some x → x.name ≠ n) : TrS.get K n = some d := by
  obtain ⟨hk, he⟩ := List.getElem?_eq_some_iff.1 hd
  unfold TrS.get
  rw [List.find?_eq_some_iff_getElem]
  refine ⟨by simpa using hn, k, hk, he, fun j hj => ?_⟩
  have := hne j K[j] hj (List.getElem?_eq_getElem (by omega))
  simpa using this
theorem get_nowhere {K : List BlkD} {n : Int} (hne : ∀ j x, j < K.length → K[j]? = some x → x.name ≠ n) : TrS.get K n = none := by
  unfold TrS.get
  rw [List.find?_eq_none]
  intro x hx
  obtain ⟨j, hj, rfl⟩ := List.getElem_of_mem hx
  simpa using hne j _ hj (List.getElem?_eq_getElem hj)
theorem none_more {K : List BlkD} {n : Int} {k : Nat} {d : BlkD} (hd : K[k]? = some d) (hn : d.name ≠ n) (hne : ∀ j x, j < k → K[j]? = some x → x.name ≠ n) : ∀ j x, j < k + 1 → K[j]? = some x → x.name ≠ n := by
  intro j x hj hx
  rcases Nat.lt_succ_iff_lt_or_eq.1 hj with h | rfl
  · exact hne j x h hx
  · rw [hd] at hx
    injection hx with hx
    exact hx ▸ hn

set_option maxRecDepth 100000 in
set_option maxHeartbeats 1600000 in
theorem refGet_any {w : World} {vk vw : Value} {K : List BlkD} {n : Int} (hK0 : Recs 5 BlkR w vk K) :
    Calls Try.prog 36 #[.agg #[vk, vw], .int .i64 n] w fun e w' => ∃ u, e = .returned (.tuple #[.agg (bRow (getOr K n) u).toArray, .bool (TrS.has K n)]) ∧ Recs 2 TxR w' u (getOr K n).txs ∧ (getOr K n).Raw ∧ Ext w w' := by
  refine calls_keep ?_
  have hK := hide_ hK0
  have hmax := hK0.len_le
  unfold maxLen at hmax
  clear hK0
  go_enter Try.func36, Try.ntmps36
  go_wp2_with ((first
    | ((with_reducible refine at_box ?_); refine w_box _ [vk, vw] rfl rfl rfl rfl ?_; intro g1 w1 hg1 hX f1)
    | ((with_reducible refine at_alloc ?_); refine w_alloc Try.stBlk rfl rfl ?_; intro g4 w2 hg4 hx2 f4; replace f1 := f1.ext hx2; replace hg4 := Nat.le_trans hX.size hg4; replace hX := hX.trans hx2; clear hx2)
    | ((with_reducible refine at_field ?_); (try refine w_yes _ _ _ rfl rfl rfl ?_); refine w_field Try.stDoc _ _ _ rfl rfl rfl (by omega) ?_)
    | ((with_reducible refine at_load ?_); (try refine w_yes _ _ _ rfl rfl rfl ?_); refine w_fload _ rfl rfl rfl f1 rfl (agg_of (by kernel_rfl)) ?_)
    | ((with_reducible refine at_bi ?_); refine w_rlen Try.enBlk.elS _ rfl rfl rfl (hK.out.ext BlkR.stays hX) ?_)
    | fail) <;> (try simp only [Act.put, List.setIfInBounds_toArray, List.set_cons_zero, List.set_cons_succ]))
  go_loopw [11] (fun i wr => ∃ k : Nat, i = .int .i64 k ∧ k ≤ K.length ∧ Ext w wr ∧ Fs wr g4 [.int .i64 0, .int .i64 0, .int .i64 0, .int .i64 0, .slice none 0 0] ∧ ∀ j x, j < k → K[j]? = some x → x.name ≠ n) (fun i _ => K.length - (RowKit.intOf i).toNat)
  case atStart => exact ⟨0, rfl, Nat.zero_le _, hX, f4, fun j x h => absurd h (by omega)⟩
  case round =>
    clear hX f4 f1
    obtain ⟨k, rfl, hk, hX, f4, hne⟩ := hrel
    by_cases hge : K.length ≤ k
    · obtain rfl : k = K.length := by omega
      have t2 : decide (K.length < K.length) = false := by simp
      have hg := get_nowhere hne
      have e1 := hide_ (show getOr K n = BlkD.zero by rw [getOr, hg]; rfl)
      have e2 := hide_ (show TrS.has K n = false by rw [← get_has, hg]; rfl)
      clear hne hge hg
      go_wp2_with ((first
        | ((with_reducible refine at_sbuild ?_); refine w_sbuild Try.stBlk [.int .i64 0, .int .i64 0, .int .i64 0, .int .i64 0, .slice none 0 0] rfl rfl rfl (by intro p hp; simp at hp) ?_)
        | ((with_reducible refine at_store ?_); refine w_astore Try.stBlk _ _ (us := bRow BlkD.zero (.slice none 0 0)) rfl rfl rfl rfl rfl f4 rfl rfl (blk_one rfl) ?_; intro w3 hm3 f3; replace f4 : Fs w3 g4 (bRow BlkD.zero (.slice none 0 0)) := f3; replace hX := hm3.after hX (fun i hi => by subst hi; exact hg4); clear hm3 f3)
        | fail) <;> (try simp only [Act.put, List.setIfInBounds_toArray, List.set_cons_zero, List.set_cons_succ]))
      exact bodyPost_ret (ret_two Try.stBlk rfl rfl rfl f4 rfl) rfl (Keep.intro ⟨.slice none 0 0, by rw [e1.out, e2.out]; rfl, by rw [e1.out]; exact (RowN.nil (F := fun _ => True) _ 0 2).recs rfl (by simp), by rw [e1.out]; exact ⟨by simp [BlkD.zero], by simp [BlkD.zero], by simp [BlkD.zero], by simp [BlkD.zero], by simp [BlkD.zero]⟩, hX⟩)
    have hlt : k < K.length := by omega
    have t2 : decide (k < K.length) = true := by simpa using hlt
    obtain ⟨d, hd0⟩ : ∃ d, K[k]? = some d := ⟨_, List.getElem?_eq_getElem hlt⟩
    obtain ⟨dn, hdn⟩ : ∃ dn, d.name = dn := ⟨_, rfl⟩
    have hdn' := hide_ hdn
    have hne' := hide_ hne
    have hlt' := hide_ hlt
    have hd := hide_ hd0
    clear hge hd0 hdn hne
    cases c1 : (dn == n)
    all_goals go_wp2_with ((first
      | (go_at_call 35; refine (refBName_any (b := d) (hu.ext TxR.stays hX) hraw.out.parent).mono ?_; rintro e w4 ⟨rfl, hx⟩; rw [hdn'.out]; replace hX := hX.trans hx; replace f4 := f4.ext hx; replace f7 := f7.ext hx; clear hx)
      | ((with_reducible refine at_idx ?_); refine w_didx Try.enBlk.elS _ _ k rfl rfl rfl rfl hK.out hX hd.out ?_; intro pa u hrow hu hraw; have hone := blk_one (a := d.slot) (b := d.miner) (c := d.var) (d := d.parent) hu.one'; replace hrow := hide_ hrow; replace hraw := hide_ hraw)
      | ((with_reducible refine at_load ?_); refine w_pload Try.stBlk _ rfl rfl rfl hrow.out rfl ?_)
      | ((with_reducible refine at_alloc ?_); refine w_alloc Try.stBlk rfl rfl ?_; intro g7 w2 hg2 hx2 f7; have hn47 : g4 ≠ g7 := (fun e => by have := f4.lt; omega))
      | ((with_reducible refine at_store ?_); refine w_astore Try.stBlk _ _ (us := bRow d u) rfl rfl rfl rfl rfl f7 rfl rfl hone ?_; intro w3 hm3 f3; replace f7 : Fs w3 g7 (bRow d u) := f3; replace hx2 := hm3.after hx2 (fun i hi => by subst hi; exact hg2); replace hX := hX.trans hx2; replace f4 := f4.ext hx2; clear hm3 f3 hx2 hrow hg2)
      | ((with_reducible refine at_store ?_); refine w_astore Try.stBlk _ _ (us := bRow d u) rfl rfl rfl rfl rfl f4 rfl rfl hone ?_; intro w3 hm3 f3; replace f4 : Fs w3 g4 (bRow d u) := f3; replace hX := hm3.after hX (fun i hi => by subst hi; exact hg4); clear hm3 f3)
      | ((with_reducible refine at_load ?_); refine w_aload Try.stBlk _ rfl rfl rfl f7 rfl ?_)
      | fail) <;> (try simp only [Act.put, List.setIfInBounds_toArray, List.set_cons_zero, List.set_cons_succ]))
    · go_roundw
      case rel => exact ⟨k + 1, by go_num, hlt'.out, hX, f4, none_more hd.out (by rw [hdn'.out]; simpa using c1) hne'.out⟩
      case measure => have := hlt'.out; simp [RowKit.intOf]; omega
    · have hg := get_first hd.out (hdn'.out.trans (by simpa using c1)) hne'.out
      have e1 : getOr K n = d := by rw [getOr, hg]; rfl
      have e2 : TrS.has K n = true := by rw [← get_has, hg]; rfl
      exact bodyPost_ret (ret_two Try.stBlk rfl rfl rfl f4 rfl) rfl (Keep.intro ⟨u, by rw [e1, e2]; rfl, by rw [e1]; exact hu.ext TxR.stays hX, by rw [e1]; exact hraw.out, hX⟩)

set_option maxRecDepth 100000 in
set_option maxHeartbeats 1600000 in
theorem refReady_any {w : World} {vk vw u : Value} {K : List BlkD} {b : BlkD} (hK0 : Recs 5 BlkR w vk K) (hu1 : u.oneCell' = true) :
    Calls Try.prog 58 #[.agg #[vk, vw], .agg (bRow b u).toArray] w fun e w' => e = .returned (.bool (TrS.ready K b)) ∧ Ext w w' := by
  refine calls_keep ?_
  have hK := hide_ hK0
  have hone := blk_one (a := b.slot) (b := b.miner) (c := b.var) (d := b.parent) hu1
  obtain ⟨q, hq⟩ : ∃ q, TrS.has K b.parent = q := ⟨_, rfl⟩
  have e := hide_ (show TrS.ready K b = (decide (b.parent = 0) || q) by rw [TrS.ready, hq])
  have hq' := hide_ hq
  clear hK0 hu1 hq
  go_enter Try.func58, Try.ntmps58
  cases c1 : (b.parent == 0)
  all_goals go_wp2_with ((first
    | ((with_reducible refine at_box ?_); refine w_box _ [vk, vw] rfl rfl rfl rfl ?_; intro g1 w1 hg1 hX f1)
    | ((with_reducible refine at_box ?_); refine w_box _ (bRow b u) rfl rfl rfl rfl ?_; intro g3 w2 hg3 hx2 f3; replace f1 := f1.ext hx2; replace hX := hX.trans hx2; clear hx2)
    | (go_at_call 36; refine (refGet_any (vw := vw) (n := b.parent) (hK.out.ext BlkR.stays hX)).mono ?_; rintro e w4 ⟨u12, rfl, hu12, hr12, hx⟩; rw [hq'.out]; have hone12 := blk_one (a := (getOr K b.parent).slot) (b := (getOr K b.parent).miner) (c := (getOr K b.parent).var) (d := (getOr K b.parent).parent) hu12.one'; replace f1 := f1.ext hx; replace f3 := f3.ext hx; replace hX := hX.trans hx; clear hx)
    | ((with_reducible refine at_alloc ?_); refine w_alloc Try.stBlk rfl rfl ?_; intro g5 w2 hg2 hx2 f5)
    | ((with_reducible refine at_store ?_); refine w_astore Try.stBlk _ _ (us := bRow (getOr K b.parent) u12) rfl rfl rfl rfl rfl f5 rfl rfl hone12 ?_; intro w3 hm3 f6; replace hx2 := hm3.after hx2 (fun i hi => by subst hi; exact hg2); replace hX := hX.trans hx2; replace f3 := f3.ext hx2; clear hm3 f6 hx2 f5 hg2)
    | ((with_reducible refine at_field ?_); (try refine w_yes _ _ _ rfl rfl rfl ?_); refine w_field Try.stBlk _ _ _ rfl rfl rfl (by omega) ?_)
    | ((with_reducible refine at_load ?_); refine w_aload Try.stDoc _ rfl rfl rfl f1 rfl ?_)
    | ((with_reducible refine at_load ?_); refine w_fload _ rfl rfl rfl f3 rfl (agg_of (by kernel_rfl)) ?_)
    | fail) <;> (try simp only [Act.put, List.setIfInBounds_toArray, List.set_cons_zero, List.set_cons_succ]))
  · go_ret
    exact Keep.intro ⟨by rw [e.out, decide_eq_false (by simpa using c1)]; rfl, hX⟩
  · go_ret
    exact Keep.intro ⟨by rw [e.out, decide_eq_true (by simpa using c1)]; rfl, hX⟩

set_option maxRecDepth 100000 in
set_option maxHeartbeats 1600000 in
theorem refWaiting_any {w : World} {vk vw : Value} {V : List BlkD} (hV0 : Recs 5 BlkR w vw V) (hV1 : V.length ≤ 16) :
    Calls Try.prog 29 #[.agg #[vk, vw]] w fun e w' => ∃ v', e = .returned v' ∧ OwnI w.heap.size w' v' (V.map BlkD.name) ∧ Ext w w' := by
  refine calls_keep ?_
  have hV := hide_ hV0
  clear hV0
  have hbox := Ext.refl w
  go_enter Try.func29, Try.ntmps29
  go_wp2_with ((first
    | ((with_reducible refine at_box ?_); refine w_box _ [vk, vw] rfl rfl rfl rfl ?_; intro g1 w1 hg1 hX f1)
    | ((with_reducible refine at_lit ?_); refine w_new Try.elI (i64s []) rfl rfl rfl (i64s_cells _) rfl (by omega) ?_; intro v3 w5 hx3 o3; replace o3 : OwnI _ w5 v3 [] := o3; replace o3 := own_mono o3 hX.size; replace f1 := f1.ext hx3; replace hX := hX.trans hx3; clear hx3)
    | ((with_reducible refine at_field ?_); (try refine w_yes _ _ _ rfl rfl rfl ?_); refine w_field Try.stDoc _ _ _ rfl rfl rfl (by omega) ?_)
    | ((with_reducible refine at_load ?_); (try refine w_yes _ _ _ rfl rfl rfl ?_); refine w_fload _ rfl rfl rfl f1 rfl (agg_of (by kernel_rfl)) ?_)
    | ((with_reducible refine at_bi ?_); refine w_rlen Try.enBlk.elS _ rfl rfl rfl (hV.out.ext BlkR.stays hX) ?_)
    | fail) <;> (try simp only [Act.put, List.setIfInBounds_toArray, List.set_cons_zero, List.set_cons_succ]))
  go_loopw [3, 10] (fun u3 i wr => ∃ k : Nat, i = .int .i64 k ∧ k ≤ V.length ∧ OwnI w.heap.size wr u3 ((V.take k).map BlkD.name) ∧ Ext w wr) (fun _ i _ => V.length - (RowKit.intOf i).toNat)
  case atStart => exact ⟨0, rfl, Nat.zero_le _, o3, hX⟩
  case round =>
    clear hX o3 f1
    obtain ⟨k, rfl, hk, ho, hX⟩ := hrel
    by_cases hge : V.length ≤ k
    · obtain rfl : k = V.length := by omega
      have t2 : decide (V.length < V.length) = false := by simp
      rw [List.take_length] at ho
      replace ho := hide_ ho
      go_wp2
      go_ret
      exact Keep.intro ⟨_, rfl, ho.out, hX⟩
    have hlt : k < V.length := by omega
    have t2 : decide (k < V.length) = true := by simpa using hlt
    obtain ⟨d, hd0⟩ : ∃ d, V[k]? = some d := ⟨_, List.getElem?_eq_getElem hlt⟩
    have hlt' := hide_ hlt
    have hd := hide_ hd0
    have he := hide_ (show (V.take k).map BlkD.name ++ [d.name] = (V.take (k + 1)).map BlkD.name from by rw [List.take_add_one, hd0, List.map_append]; rfl)
    have hbig := hide_ (show (((V.take k).map BlkD.name).length + [d.name].length) * 8 ≤ 140737488355328 from by simp; omega)
    clear hge hlt hd0
    go_wp2_with ((first
      | (go_at_call 35; refine (refBName_any (b := d) (hu.out.ext TxR.stays hX) hraw.out.parent).mono ?_; rintro e w4 ⟨rfl, hx⟩; replace ho := own_ext ho hx; replace hX := hX.trans hx; clear hx f2)
      | ((with_reducible refine at_idx ?_); refine w_didx Try.enBlk.elS _ _ k rfl rfl rfl rfl hV.out hX hd.out ?_; intro pa u hrow hu hraw; have hone := blk_one (a := d.slot) (b := d.miner) (c := d.var) (d := d.parent) hu.one'; replace hrow := hide_ hrow; replace hraw := hide_ hraw; replace hu := hide_ hu)
      | ((with_reducible refine at_load ?_); refine w_pload Try.stBlk _ rfl rfl rfl hrow.out rfl ?_)
      | ((with_reducible refine at_alloc ?_); refine w_alloc Try.stBlk rfl rfl ?_; intro g2 w2 hg2 hx2 f2)
      | ((with_reducible refine at_store ?_); refine w_astore Try.stBlk _ _ (us := bRow d u) rfl rfl rfl rfl rfl f2 rfl rfl hone ?_; intro w3 hm3 f3; replace f2 : Fs w3 g2 (bRow d u) := f3; replace hx2 := hm3.after hx2 (fun i hi => by subst hi; exact hg2); replace hX := hX.trans hx2; replace ho := own_ext ho hx2; clear hm3 f3 hx2 hrow)
      | ((with_reducible refine at_lit ?_); refine w_new Try.elI (i64s [d.name]) rfl rfl rfl (i64s_cells _) rfl (by omega) ?_; intro v2 w5 hx3 o2; replace o2 : OwnI _ w5 v2 [d.name] := o2; replace ho := own_ext ho hx3; replace hX := hX.trans hx3; clear hx3)
      | ((with_reducible refine at_bi ?_); refine appi _ _ rfl rfl rfl rfl ho o2.ints hbig.out hX.size ?_; intro v9 w9 o9 hb9 hg9 hg9'; replace hX := hX.trans' hb9; replace ho := o9; clear hb9 hg9 hg9' o9 o2)
      | ((with_reducible refine at_load ?_); refine w_aload Try.stBlk _ rfl rfl rfl f2 rfl ?_)
      | fail) <;> (try simp only [Act.put, List.setIfInBounds_toArray, List.set_cons_zero, List.set_cons_succ]))
    go_roundw
    case rel => exact ⟨k + 1, by go_num, hlt'.out, by rw [← he.out]; exact ho, hX⟩
    case measure => have := hlt'.out; simp [RowKit.intOf]; omega

set_option maxRecDepth 100000 in
set_option maxHeartbeats 1600000 in
theorem refIn_any {w : World} {v : Value} {l : List Int} {n : Int} (hl0 : Ints w v l) :
    Calls Try.prog 57 #[v, .int .i64 n] w fun e w' => e = .returned (.bool (decide (n ∈ l))) ∧ Ext w w' := by
  refine calls_keep ?_
  have hl := hide_ hl0
  have hmax := hl0.len_le
  unfold maxLen at hmax
  clear hl0
  have hX := Ext.refl w
  go_enter Try.func57, Try.ntmps57
  go_wp2_with ((first
    | ((with_reducible refine at_bi ?_); refine i_len _ rfl rfl (v := v) rfl (hl.out.ext hX) ?_)
    | fail) <;> (try simp only [Act.put, List.setIfInBounds_toArray, List.set_cons_zero, List.set_cons_succ]))
  go_loopw [9] (fun i wr => ∃ k : Nat, i = .int .i64 k ∧ k ≤ l.length ∧ Ext w wr ∧ n ∉ l.take k) (fun i _ => l.length - (RowKit.intOf i).toNat)
  case atStart => exact ⟨0, rfl, Nat.zero_le _, hX, by simp⟩
  case round =>
    clear hX
    obtain ⟨k, rfl, hk, hX, hne⟩ := hrel
    by_cases hge : l.length ≤ k
    · obtain rfl : k = l.length := by omega
      have t2 : decide (l.length < l.length) = false := by simp
      rw [List.take_length] at hne
      have e := hide_ (decide_eq_false hne)
      clear hne hge
      go_wp2
      go_ret
      exact Keep.intro ⟨by rw [e.out]; rfl, hX⟩
    have hlt : k < l.length := by omega
    have t2 : decide (k < l.length) = true := by simpa using hlt
    obtain ⟨x, hx0⟩ : ∃ x, l[k] = x := ⟨_, rfl⟩
    have hx0' := hide_ hx0
    have hne' := hide_ hne
    have hxm := hide_ (hx0 ▸ List.getElem_mem hlt)
    have htk := hide_ (show l.take (k + 1) = l.take k ++ [x] by rw [List.take_add_one, List.getElem?_eq_getElem hlt, hx0]; rfl)
    have hlt' := hide_ hlt
    clear hge hx0 hne
    cases c1 : (x == n)
    all_goals go_wp2_with ((first
      | ((with_reducible refine at_idx ?_); refine i_idx _ _ k rfl rfl rfl (hl.out.ext hX) rfl hlt'.out ?_; intro ad had; rw [hx0'.out] at had)
      | fail) <;> (try simp only [Act.put, List.setIfInBounds_toArray, List.set_cons_zero, List.set_cons_succ]))
    · go_roundw
      case rel => exact ⟨k + 1, by go_num, hlt'.out, hX, by
        rw [htk.out]
        intro h
        rcases List.mem_append.1 h with h | h
        · exact hne'.out h
        · simp at h c1; exact c1 h.symm⟩
      case measure => have := hlt'.out; simp [RowKit.intOf]; omega
    · go_ret
      refine Keep.intro ⟨?_, hX⟩
      have : n ∈ l := by simp at c1; exact c1 ▸ hxm.out
      rw [decide_eq_true this]; rfl
end Go.Proofs.Ytdacclcaopmalaa
