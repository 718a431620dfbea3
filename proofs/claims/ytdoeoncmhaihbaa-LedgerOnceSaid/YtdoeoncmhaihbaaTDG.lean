/- The document's tree of blocks: what it finds, what waits. · The document's tree of blocks: one more block that is known. · The document's tree of blocks: what lies where, while one more is added. · The document's tree of blocks: one more block, where it is known or waits. · The document's tree of blocks: one more block, and those that waited for it. · The document's tree of blocks: one more block; rising lists; ways and heights. · The document's tree of blocks: its names, ways and heights. · The document's tree of blocks: what is missing, the tip, steps back, what two have in common. -/
import Derived.Test.YtdoeoncmhaihbaaTLA
import Derived.Test.YtdoeoncmhaihbaaFL
namespace Go.Proofs.Ytdoeoncmhaihbaa
set_option maxRecDepth 100000
open Go.RowKit Go.ChangeShapes Go.WideShapes Go.ChangeAt

theorem Try.stDoc : St Try.prog 36 2 [.slice none 0 0, .slice none 0 0] := St.of (by kernel_rfl) (by kernel_rfl) rfl
/-- &l[i] of blocks from outside. -/
theorem w_didx {P : Program} {ops : Array Oper} {rest : List Oper} {o : Oper} {a : Act} {Q : Exit → Act → World → Prop} {w W0 : World} {t e : TypeId} {v : Value} {l : List BlkD} (E : ElS P t e 5) (x y : Operand) (i : Nat) (hgd : o.guard = none) (ho : o.op = .indexAddr t x y) (hv : a.eval x = v) (hy : a.eval y = .int .i64 i)
    (h : Recs 5 BlkR W0 v l) (he : Ext W0 w) {d : BlkD} (hd : l[i]? = some d) (k : ∀ p u, RowAt w p (bRow d u) → Recs 2 TxR W0 u d.txs → d.Raw → wpList P ops Q rest (a.put o.dst (.pointer (some p))) w) : wpList P ops Q (o :: rest) a w := by
  have hi := (List.getElem?_eq_some_iff.1 hd).1
  have e : l[i] = d := (List.getElem?_eq_some_iff.1 hd).2
  refine w_ridx0 E x y i BlkR.stays hgd ho hv hy h he hi ?_
  rintro pa row hrow _ ⟨⟨u, rfl, hu⟩, hraw⟩
  rw [e] at hrow hu hraw
  exact k pa u (hrow.ext he) hu hraw
theorem get_first {K : List BlkD} {n : Int} {k : Nat} {d : BlkD} (hd : K[k]? = some d) (hn : d.name = n) (hne : ∀ j x, j < k → K[j]? = some x → x.name ≠ n) : TrS.get K n = some d := by
  obtain ⟨hk, he⟩ := List.getElem?_eq_some_iff.1 hd
  unfold TrS.get
  rw [List.find?_eq_some_iff_getElem]
  refine ⟨by simpa using hn, k, hk, he, fun j hj => ?_⟩
  have := hne j K[j] hj (List.getElem?_eq_getElem (by omega))
  simpa using this
theorem get_nowhere {K : List BlkD} {n : Int} (hne : ∀ j x, j < K.length → K[j]? = some x → x.name ≠ n) : TrS.get K n = none := by
  unfold TrS.get
  rw [List.find?_eq_none]
  intro x hx
  obtain ⟨j, hj, rfl⟩ := List.getElem_of_mem hx
  simpa using hne j _ hj (List.getElem?_eq_getElem hj)
theorem none_more {K : List BlkD} {n : Int} {k : Nat} {d : BlkD} (hd : K[k]? = some d) (hn : d.name ≠ n) (hne : ∀ j x, j < k → K[j]? = some x → x.name ≠ n) : ∀ j x, j < k + 1 → K[j]? = some x → x.name ≠ n := by
  intro j x hj hx
  rcases Nat.lt_succ_iff_lt_or_eq.1 hj with h | rfl
  · exact hne j x h hx
  · rw [hd] at hx
    injection hx with hx
    exact hx ▸ hn

set_option maxRecDepth 100000 in
set_option maxHeartbeats 1600000 in
theorem refGet_any {w : World} {vk vw : Value} {K : List BlkD} {n : Int} (hK0 : Recs 5 BlkR w vk K) :
    Calls Try.prog 34 #[.agg #[vk, vw], .int .i64 n] w fun e w' => ∃ u, e = .returned (.tuple #[.agg (bRow (getOr K n) u).toArray, .bool (TrS.has K n)]) ∧ Recs 2 TxR w' u (getOr K n).txs ∧ (getOr K n).Raw ∧ Ext w w' := by
  refine calls_keep ?_
  have hK := hide_ hK0
  have hmax := hK0.len_le
  unfold maxLen at hmax
  clear hK0
  go_enter Try.func34, Try.ntmps34
  go_wp2_with ((first
    | ((with_reducible refine at_box ?_); refine w_box _ [vk, vw] rfl rfl rfl rfl ?_; intro g1 w1 hg1 hX f1)
    | ((with_reducible refine at_alloc ?_); refine w_alloc Try.stBlk rfl rfl ?_; intro g4 w2 hg4 hx2 f4; replace f1 := f1.ext hx2; replace hg4 := Nat.le_trans hX.size hg4; replace hX := hX.trans hx2; clear hx2)
    | ((with_reducible refine at_field ?_); (try refine w_yes _ _ _ rfl rfl rfl ?_); refine w_field Try.stDoc _ _ _ rfl rfl rfl (by omega) ?_)
    | ((with_reducible refine at_load ?_); (try refine w_yes _ _ _ rfl rfl rfl ?_); refine w_fload _ rfl rfl rfl f1 rfl (agg_of (by kernel_rfl)) ?_)
    | ((with_reducible refine at_bi ?_); refine w_rlen Try.enBlk.elS _ rfl rfl rfl (hK.out.ext BlkR.stays hX) ?_)
    | fail) <;> (try simp only [Act.put, List.setIfInBounds_toArray, List.set_cons_zero, List.set_cons_succ]))
  go_loopw [11] (fun i wr => ∃ k : Nat, i = .int .i64 k ∧ k ≤ K.length ∧ Ext w wr ∧ Fs wr g4 [.int .i64 0, .int .i64 0, .int .i64 0, .int .i64 0, .slice none 0 0] ∧ ∀ j x, j < k → K[j]? = some x → x.name ≠ n) (fun i _ => K.length - (RowKit.intOf i).toNat)
  case atStart => exact ⟨0, rfl, Nat.zero_le _, hX, f4, fun j x h => absurd h (by omega)⟩
  case round =>
    clear hX f4 f1
    obtain ⟨k, rfl, hk, hX, f4, hne⟩ := hrel
    by_cases hge : K.length ≤ k
    · obtain rfl : k = K.length := by omega
      have t2 : decide (K.length < K.length) = false := by simp
      have hg := get_nowhere hne
      have e1 := hide_ (show getOr K n = BlkD.zero by rw [getOr, hg]; rfl)
      have e2 := hide_ (show TrS.has K n = false by rw [← get_has, hg]; rfl)
      clear hne hge hg
      go_wp2_with ((first
        | ((with_reducible refine at_sbuild ?_); refine w_sbuild Try.stBlk [.int .i64 0, .int .i64 0, .int .i64 0, .int .i64 0, .slice none 0 0] rfl rfl rfl (by intro p hp; simp at hp) ?_)
        | ((with_reducible refine at_store ?_); refine w_astore Try.stBlk _ _ (us := bRow BlkD.zero (.slice none 0 0)) rfl rfl rfl rfl rfl f4 rfl rfl (blk_one rfl) ?_; intro w3 hm3 f3; replace f4 : Fs w3 g4 (bRow BlkD.zero (.slice none 0 0)) := f3; replace hX := hm3.after hX (fun i hi => by subst hi; exact hg4); clear hm3 f3)
        | fail) <;> (try simp only [Act.put, List.setIfInBounds_toArray, List.set_cons_zero, List.set_cons_succ]))
      exact bodyPost_ret (ret_two Try.stBlk rfl rfl rfl f4 rfl) rfl (Keep.intro ⟨.slice none 0 0, by rw [e1.out, e2.out]; rfl, by rw [e1.out]; exact (RowN.nil (F := fun _ => True) _ 0 2).recs rfl (by simp), by rw [e1.out]; exact ⟨by simp [BlkD.zero], by simp [BlkD.zero], by simp [BlkD.zero], by simp [BlkD.zero], by simp [BlkD.zero]⟩, hX⟩)
    have hlt : k < K.length := by omega
    have t2 : decide (k < K.length) = true := by simpa using hlt
    obtain ⟨d, hd0⟩ : ∃ d, K[k]? = some d := ⟨_, List.getElem?_eq_getElem hlt⟩
    obtain ⟨dn, hdn⟩ : ∃ dn, d.name = dn := ⟨_, rfl⟩
    have hdn' := hide_ hdn
    have hne' := hide_ hne
    have hlt' := hide_ hlt
    have hd := hide_ hd0
    clear hge hd0 hdn hne
    cases c1 : (dn == n)
    all_goals go_wp2_with ((first
      | (go_at_call 46; refine (refBName_any (b := d) (hu.ext TxR.stays hX) hraw.out.parent).mono ?_; rintro e w4 ⟨rfl, hx⟩; rw [hdn'.out]; replace hX := hX.trans hx; replace f4 := f4.ext hx; replace f7 := f7.ext hx; clear hx)
      | ((with_reducible refine at_idx ?_); refine w_didx Try.enBlk.elS _ _ k rfl rfl rfl rfl hK.out hX hd.out ?_; intro pa u hrow hu hraw; have hone := blk_one (a := d.slot) (b := d.miner) (c := d.var) (d := d.parent) hu.one'; replace hrow := hide_ hrow; replace hraw := hide_ hraw)
      | ((with_reducible refine at_load ?_); refine w_pload Try.stBlk _ rfl rfl rfl hrow.out rfl ?_)
      | ((with_reducible refine at_alloc ?_); refine w_alloc Try.stBlk rfl rfl ?_; intro g7 w2 hg2 hx2 f7; have hn47 : g4 ≠ g7 := (fun e => by have := f4.lt; omega))
      | ((with_reducible refine at_store ?_); refine w_astore Try.stBlk _ _ (us := bRow d u) rfl rfl rfl rfl rfl f7 rfl rfl hone ?_; intro w3 hm3 f3; replace f7 : Fs w3 g7 (bRow d u) := f3; replace hx2 := hm3.after hx2 (fun i hi => by subst hi; exact hg2); replace hX := hX.trans hx2; replace f4 := f4.ext hx2; clear hm3 f3 hx2 hrow hg2)
      | ((with_reducible refine at_store ?_); refine w_astore Try.stBlk _ _ (us := bRow d u) rfl rfl rfl rfl rfl f4 rfl rfl hone ?_; intro w3 hm3 f3; replace f4 : Fs w3 g4 (bRow d u) := f3; replace hX := hm3.after hX (fun i hi => by subst hi; exact hg4); clear hm3 f3)
      | ((with_reducible refine at_load ?_); refine w_aload Try.stBlk _ rfl rfl rfl f7 rfl ?_)
      | fail) <;> (try simp only [Act.put, List.setIfInBounds_toArray, List.set_cons_zero, List.set_cons_succ]))
    · go_roundw
      case rel => exact ⟨k + 1, by go_num, hlt'.out, hX, f4, none_more hd.out (by rw [hdn'.out]; simpa using c1) hne'.out⟩
      case measure => have := hlt'.out; simp [RowKit.intOf]; omega
    · have hg := get_first hd.out (hdn'.out.trans (by simpa using c1)) hne'.out
      have e1 : getOr K n = d := by rw [getOr, hg]; rfl
      have e2 : TrS.has K n = true := by rw [← get_has, hg]; rfl
      exact bodyPost_ret (ret_two Try.stBlk rfl rfl rfl f4 rfl) rfl (Keep.intro ⟨u, by rw [e1, e2]; rfl, by rw [e1]; exact hu.ext TxR.stays hX, by rw [e1]; exact hraw.out, hX⟩)

set_option maxRecDepth 100000 in
set_option maxHeartbeats 1600000 in
theorem refReady_any {w : World} {vk vw u : Value} {K : List BlkD} {b : BlkD} (hK0 : Recs 5 BlkR w vk K) (hu1 : u.oneCell' = true) :
    Calls Try.prog 62 #[.agg #[vk, vw], .agg (bRow b u).toArray] w fun e w' => e = .returned (.bool (TrS.ready K b)) ∧ Ext w w' := by
  refine calls_keep ?_
  have hK := hide_ hK0
  have hone := blk_one (a := b.slot) (b := b.miner) (c := b.var) (d := b.parent) hu1
  obtain ⟨q, hq⟩ : ∃ q, TrS.has K b.parent = q := ⟨_, rfl⟩
  have e := hide_ (show TrS.ready K b = (decide (b.parent = 0) || q) by rw [TrS.ready, hq])
  have hq' := hide_ hq
  clear hK0 hu1 hq
  go_enter Try.func62, Try.ntmps62
  cases c1 : (b.parent == 0)
  all_goals go_wp2_with ((first
    | ((with_reducible refine at_box ?_); refine w_box _ [vk, vw] rfl rfl rfl rfl ?_; intro g1 w1 hg1 hX f1)
    | ((with_reducible refine at_box ?_); refine w_box _ (bRow b u) rfl rfl rfl rfl ?_; intro g3 w2 hg3 hx2 f3; replace f1 := f1.ext hx2; replace hX := hX.trans hx2; clear hx2)
    | (go_at_call 34; refine (refGet_any (vw := vw) (n := b.parent) (hK.out.ext BlkR.stays hX)).mono ?_; rintro e w4 ⟨u12, rfl, hu12, hr12, hx⟩; rw [hq'.out]; have hone12 := blk_one (a := (getOr K b.parent).slot) (b := (getOr K b.parent).miner) (c := (getOr K b.parent).var) (d := (getOr K b.parent).parent) hu12.one'; replace f1 := f1.ext hx; replace f3 := f3.ext hx; replace hX := hX.trans hx; clear hx)
    | ((with_reducible refine at_alloc ?_); refine w_alloc Try.stBlk rfl rfl ?_; intro g5 w2 hg2 hx2 f5)
    | ((with_reducible refine at_store ?_); refine w_astore Try.stBlk _ _ (us := bRow (getOr K b.parent) u12) rfl rfl rfl rfl rfl f5 rfl rfl hone12 ?_; intro w3 hm3 f6; replace hx2 := hm3.after hx2 (fun i hi => by subst hi; exact hg2); replace hX := hX.trans hx2; replace f3 := f3.ext hx2; clear hm3 f6 hx2 f5 hg2)
    | ((with_reducible refine at_field ?_); (try refine w_yes _ _ _ rfl rfl rfl ?_); refine w_field Try.stBlk _ _ _ rfl rfl rfl (by omega) ?_)
    | ((with_reducible refine at_load ?_); refine w_aload Try.stDoc _ rfl rfl rfl f1 rfl ?_)
    | ((with_reducible refine at_load ?_); refine w_fload _ rfl rfl rfl f3 rfl (agg_of (by kernel_rfl)) ?_)
    | fail) <;> (try simp only [Act.put, List.setIfInBounds_toArray, List.set_cons_zero, List.set_cons_succ]))
  · go_ret
    exact Keep.intro ⟨by rw [e.out, decide_eq_false (by simpa using c1)]; rfl, hX⟩
  · go_ret
    exact Keep.intro ⟨by rw [e.out, decide_eq_true (by simpa using c1)]; rfl, hX⟩

set_option maxRecDepth 100000 in
set_option maxHeartbeats 1600000 in
theorem refWaiting_any {w : World} {vk vw : Value} {V : List BlkD} (hV0 : Recs 5 BlkR w vw V) (hV1 : V.length ≤ 16) :
    Calls Try.prog 61 #[.agg #[vk, vw]] w fun e w' => ∃ v', e = .returned v' ∧ OwnI w.heap.size w' v' (V.map BlkD.name) ∧ Ext w w' := by
  refine calls_keep ?_
  have hV := hide_ hV0
  clear hV0
  have hbox := Ext.refl w
  go_enter Try.func61, Try.ntmps61
  go_wp2_with ((first
    | ((with_reducible refine at_box ?_); refine w_box _ [vk, vw] rfl rfl rfl rfl ?_; intro g1 w1 hg1 hX f1)
    | ((with_reducible refine at_lit ?_); refine w_new Try.elI (i64s []) rfl rfl rfl (i64s_cells _) rfl (by omega) ?_; intro v3 w5 hx3 o3; replace o3 : OwnI _ w5 v3 [] := o3; replace o3 := own_mono o3 hX.size; replace f1 := f1.ext hx3; replace hX := hX.trans hx3; clear hx3)
    | ((with_reducible refine at_field ?_); (try refine w_yes _ _ _ rfl rfl rfl ?_); refine w_field Try.stDoc _ _ _ rfl rfl rfl (by omega) ?_)
    | ((with_reducible refine at_load ?_); (try refine w_yes _ _ _ rfl rfl rfl ?_); refine w_fload _ rfl rfl rfl f1 rfl (agg_of (by kernel_rfl)) ?_)
    | ((with_reducible refine at_bi ?_); refine w_rlen Try.enBlk.elS _ rfl rfl rfl (hV.out.ext BlkR.stays hX) ?_)
    | fail) <;> (try simp only [Act.put, List.setIfInBounds_toArray, List.set_cons_zero, List.set_cons_succ]))
  go_loopw [3, 10] (fun u3 i wr => ∃ k : Nat, i = .int .i64 k ∧ k ≤ V.length ∧ OwnI w.heap.size wr u3 ((V.take k).map BlkD.name) ∧ Ext w wr) (fun _ i _ => V.length - (RowKit.intOf i).toNat)
  case atStart => exact ⟨0, rfl, Nat.zero_le _, o3, hX⟩
  case round =>
    clear hX o3 f1
    obtain ⟨k, rfl, hk, ho, hX⟩ := hrel
    by_cases hge : V.length ≤ k
    · obtain rfl : k = V.length := by omega
      have t2 : decide (V.length < V.length) = false := by simp
      rw [List.take_length] at ho
      replace ho := hide_ ho
      go_wp2
      go_ret
      exact Keep.intro ⟨_, rfl, ho.out, hX⟩
    have hlt : k < V.length := by omega
    have t2 : decide (k < V.length) = true := by simpa using hlt
    obtain ⟨d, hd0⟩ : ∃ d, V[k]? = some d := ⟨_, List.getElem?_eq_getElem hlt⟩
    have hlt' := hide_ hlt
    have hd := hide_ hd0
    have he := hide_ (show (V.take k).map BlkD.name ++ [d.name] = (V.take (k + 1)).map BlkD.name from by rw [List.take_add_one, hd0, List.map_append]; rfl)
    have hbig := hide_ (show (((V.take k).map BlkD.name).length + [d.name].length) * 8 ≤ 140737488355328 from by simp; omega)
    clear hge hlt hd0
    go_wp2_with ((first
      | (go_at_call 46; refine (refBName_any (b := d) (hu.out.ext TxR.stays hX) hraw.out.parent).mono ?_; rintro e w4 ⟨rfl, hx⟩; replace ho := own_ext ho hx; replace hX := hX.trans hx; clear hx f2)
      | ((with_reducible refine at_idx ?_); refine w_didx Try.enBlk.elS _ _ k rfl rfl rfl rfl hV.out hX hd.out ?_; intro pa u hrow hu hraw; have hone := blk_one (a := d.slot) (b := d.miner) (c := d.var) (d := d.parent) hu.one'; replace hrow := hide_ hrow; replace hraw := hide_ hraw; replace hu := hide_ hu)
      | ((with_reducible refine at_load ?_); refine w_pload Try.stBlk _ rfl rfl rfl hrow.out rfl ?_)
      | ((with_reducible refine at_alloc ?_); refine w_alloc Try.stBlk rfl rfl ?_; intro g2 w2 hg2 hx2 f2)
      | ((with_reducible refine at_store ?_); refine w_astore Try.stBlk _ _ (us := bRow d u) rfl rfl rfl rfl rfl f2 rfl rfl hone ?_; intro w3 hm3 f3; replace f2 : Fs w3 g2 (bRow d u) := f3; replace hx2 := hm3.after hx2 (fun i hi => by subst hi; exact hg2); replace hX := hX.trans hx2; replace ho := own_ext ho hx2; clear hm3 f3 hx2 hrow)
      | ((with_reducible refine at_lit ?_); refine w_new Try.elI (i64s [d.name]) rfl rfl rfl (i64s_cells _) rfl (by omega) ?_; intro v2 w5 hx3 o2; replace o2 : OwnI _ w5 v2 [d.name] := o2; replace ho := own_ext ho hx3; replace hX := hX.trans hx3; clear hx3)
      | ((with_reducible refine at_bi ?_); refine appi _ _ rfl rfl rfl rfl ho o2.ints hbig.out hX.size ?_; intro v9 w9 o9 hb9 hg9 hg9'; replace hX := hX.trans' hb9; replace ho := o9; clear hb9 hg9 hg9' o9 o2)
      | ((with_reducible refine at_load ?_); refine w_aload Try.stBlk _ rfl rfl rfl f2 rfl ?_)
      | fail) <;> (try simp only [Act.put, List.setIfInBounds_toArray, List.set_cons_zero, List.set_cons_succ]))
    go_roundw
    case rel => exact ⟨k + 1, by go_num, hlt'.out, by rw [← he.out]; exact ho, hX⟩
    case measure => have := hlt'.out; simp [RowKit.intOf]; omega

set_option maxRecDepth 100000 in
set_option maxHeartbeats 1600000 in
theorem refIn_any {w : World} {v : Value} {l : List Int} {n : Int} (hl0 : Ints w v l) :
    Calls Try.prog 60 #[v, .int .i64 n] w fun e w' => e = .returned (.bool (decide (n ∈ l))) ∧ Ext w w' := by
  refine calls_keep ?_
  have hl := hide_ hl0
  have hmax := hl0.len_le
  unfold maxLen at hmax
  clear hl0
  have hX := Ext.refl w
  go_enter Try.func60, Try.ntmps60
  go_wp2_with ((first
    | ((with_reducible refine at_bi ?_); refine i_len _ rfl rfl (v := v) rfl (hl.out.ext hX) ?_)
    | fail) <;> (try simp only [Act.put, List.setIfInBounds_toArray, List.set_cons_zero, List.set_cons_succ]))
  go_loopw [9] (fun i wr => ∃ k : Nat, i = .int .i64 k ∧ k ≤ l.length ∧ Ext w wr ∧ n ∉ l.take k) (fun i _ => l.length - (RowKit.intOf i).toNat)
  case atStart => exact ⟨0, rfl, Nat.zero_le _, hX, by simp⟩
  case round =>
    clear hX
    obtain ⟨k, rfl, hk, hX, hne⟩ := hrel
    by_cases hge : l.length ≤ k
    · obtain rfl : k = l.length := by omega
      have t2 : decide (l.length < l.length) = false := by simp
      rw [List.take_length] at hne
      have e := hide_ (decide_eq_false hne)
      clear hne hge
      go_wp2
      go_ret
      exact Keep.intro ⟨by rw [e.out]; rfl, hX⟩
    have hlt : k < l.length := by omega
    have t2 : decide (k < l.length) = true := by simpa using hlt
    obtain ⟨x, hx0⟩ : ∃ x, l[k] = x := ⟨_, rfl⟩
    have hx0' := hide_ hx0
    have hne' := hide_ hne
    have hxm := hide_ (hx0 ▸ List.getElem_mem hlt)
    have htk := hide_ (show l.take (k + 1) = l.take k ++ [x] by rw [List.take_add_one, List.getElem?_eq_getElem hlt, hx0]; rfl)
    have hlt' := hide_ hlt
    clear hge hx0 hne
    cases c1 : (x == n)
    all_goals go_wp2_with ((first
      | ((with_reducible refine at_idx ?_); refine i_idx _ _ k rfl rfl rfl (hl.out.ext hX) rfl hlt'.out ?_; intro ad had; rw [hx0'.out] at had)
      | fail) <;> (try simp only [Act.put, List.setIfInBounds_toArray, List.set_cons_zero, List.set_cons_succ]))
    · go_roundw
      case rel => exact ⟨k + 1, by go_num, hlt'.out, hX, by
        rw [htk.out]
        intro h
        rcases List.mem_append.1 h with h | h
        · exact hne'.out h
        · simp at h c1; exact c1 h.symm⟩
      case measure => have := hlt'.out; simp [RowKit.intOf]; omega
    · go_ret
      refine Keep.intro ⟨?_, hX⟩
      have : n ∈ l := by simp at c1; exact c1 ▸ hxm.out
      rw [decide_eq_true this]; rfl
end Go.Proofs.Ytdoeoncmhaihbaa
namespace Go.Proofs.Ytdoeoncmhaihbaa
set_option maxRecDepth 100000
open Go.RowKit Go.ChangeShapes Go.WideShapes Go.ChangeAt

/-- v[j:] of a slice of records. -/
theorem w_nfrom {α : Type} {R : World → List Value → α → Prop} {P : Program} {ops : Array Oper} {rest : List Oper} {o : Oper} {a : Act} {Q : Exit → Act → World → Prop} {w W0 : World} {t e : TypeId} {n : Nat} {v : Value} {l : List α} (E : ElS P t e n) (x y : Operand) (j : Nat) (hgd : o.guard = none) (ho : o.op = .slice t x (some y) none none) (hv : a.eval x = v) (hy : a.eval y = .int .i64 (j : Int)) (h : Recs n R W0 v l) (hj : j ≤ l.length)
    (k : ∀ v', Recs n R W0 v' (l.drop j) → wpList P ops Q rest (a.put o.dst v') w) : wpList P ops Q (o :: rest) a w := by
  obtain ⟨rows, ⟨A, c, rfl, h1, h2, h3⟩, hl, h4⟩ := h
  refine wpList_runs hgd (runs_sfrom E x y ho hv hy (by omega) rfl) (k _ ⟨rows.drop j, ⟨_, _, by rw [List.length_drop], by rw [List.length_drop]; omega, by omega, fun i row hi => ?_⟩, by simp; omega, fun i row d hi hd => ?_⟩)
  · rw [List.getElem?_drop] at hi
    obtain ⟨g1, ad, rfl, g2⟩ := h3 _ row hi
    have hjr := (List.getElem?_eq_some_iff.1 hi).1
    rw [if_neg (by omega)]
    refine ⟨g1, _, rfl, ?_⟩
    rw [add_add', show j * n + i * n = (j + i) * n from (Nat.add_mul ..).symm]
    exact g2
  · rw [List.getElem?_drop] at hi hd
    exact h4 _ row d hi hd
theorem two_one {a b : Value} (ha : a.oneCell' = true) (hb : b.oneCell' = true) : ∀ u ∈ [a, b], u.oneCell' = true := by
  intro u hu; simp at hu; rcases hu with rfl | rfl
  · exact ha
  · exact hb
theorem slS_cell {w : World} {v : Value} {n : Nat} {rows : List (List Value)} (h : SlS w v n rows) : v.cells = #[v] ∧ v.oneCell' = true := by
  obtain ⟨A, c, rfl, _⟩ := h; exact ⟨rfl, rfl⟩
/-- The rows of blocks. -/
theorem blk_rows {w : World} {v : Value} {l : List BlkD} (h : Recs 5 BlkR w v l) : ∃ rows : List (List Value), SlS w v 5 rows ∧ rows.length = l.length ∧ (∀ y ∈ rows, ∀ u ∈ y, u.oneCell' = true) ∧ ∀ (k : Nat) (row : List Value) (d : BlkD), rows[k]? = some row → l[k]? = some d → BlkR w row d := by
  obtain ⟨rows, h1, h2, h3⟩ := h
  refine ⟨rows, h1, h2, fun y hy => ?_, h3⟩
  obtain ⟨k, hk, rfl⟩ := List.getElem_of_mem hy
  obtain ⟨⟨u4, e, hu⟩, _⟩ := h3 k _ _ (List.getElem?_eq_getElem hk) (List.getElem?_eq_getElem (show k < l.length by omega))
  rw [e]
  exact blk_one hu.one'
/-- A first world, and what holds of each block's transactions beside (where they lie). -/
structure WB where
  w : World
  ok : Value → BlkD → Prop
def WB.all (W : World) : WB := ⟨W, fun _ _ => True⟩
def WB.Has (B : WB) (u : Value) (d : BlkD) : Prop := Recs 2 TxR B.w u d.txs ∧ B.ok u d
/-- A block's row, as it was at a first world. -/
def BlkB (B : WB) (row : List Value) (d : BlkD) : Prop := (∃ u : Value, row = bRow d u ∧ B.Has u d) ∧ d.Raw
theorem BlkB.blk {B : WB} {row : List Value} {d : BlkD} (h : BlkB B row d) : BlkR B.w row d := by
  obtain ⟨⟨u, h1, h2⟩, h3⟩ := h; exact ⟨⟨u, h1, h2.1⟩, h3⟩
/-- Rows that read as blocks, at W0. -/
structure RowsB (W0 : WB) (rows : List (List Value)) (l : List BlkD) : Prop where
  len : rows.length = l.length
  at_ : ∀ (k : Nat) (row : List Value) (d : BlkD), rows[k]? = some row → l[k]? = some d → BlkB W0 row d
theorem RowsB.one {W0 : WB} {rows : List (List Value)} {l : List BlkD} (h : RowsB W0 rows l) : ∀ y ∈ rows, ∀ u ∈ y, u.oneCell' = true := by
  intro y hy
  obtain ⟨k, hk, rfl⟩ := List.getElem_of_mem hy
  have hl := h.len
  obtain ⟨⟨u4, e, hu⟩, _⟩ := h.at_ k _ _ (List.getElem?_eq_getElem hk) (List.getElem?_eq_getElem (show k < l.length by omega))
  rw [e]
  exact blk_one hu.1.one'
theorem RowsB.recs {W0 : WB} {w : World} {v : Value} {rows : List (List Value)} {l : List BlkD} (h : RowsB W0 rows l) (hs : SlS w v 5 rows) (he : Ext W0.w w) : Recs 5 BlkR w v l := ⟨rows, hs, h.len, fun k row d hk hd => BlkR.stays _ _ _ _ (h.at_ k row d hk hd).blk he⟩
theorem rows_snoc {B : WB} {rows : List (List Value)} {l : List BlkD} {b : BlkD} {u : Value} (hl : rows.length = l.length) (h : ∀ (k : Nat) (row : List Value) (d : BlkD), rows[k]? = some row → l[k]? = some d → BlkB B row d) (hu : B.Has u b) (hr : b.Raw) :
    ∀ (k : Nat) (row : List Value) (d : BlkD), (rows ++ [bRow b u])[k]? = some row → (l ++ [b])[k]? = some d → BlkB B row d := by
  intro k row d hk hd
  by_cases hlt : k < rows.length
  · rw [List.getElem?_append_left hlt] at hk
    rw [List.getElem?_append_left (by omega)] at hd
    exact h k row d hk hd
  · rw [List.getElem?_append_right (by omega)] at hk hd
    obtain rfl : k = rows.length := by
      have := (List.getElem?_eq_some_iff.1 hk).1
      simp at this; omega
    rw [← hl] at hd
    simp at hk hd
    subst hk hd
    exact ⟨⟨u, rfl, hu⟩, hr⟩

set_option maxRecDepth 100000 in
set_option maxHeartbeats 1600000 in
theorem refGrow_no {w : World} {vk vw u : Value} {K : List BlkD} {b : BlkD} (hK0 : Recs 5 BlkR w vk K) (hw1 : vw.oneCell' = true) (hlen : 400 ≤ K.length) :
    Calls Try.prog 63 #[.agg #[vk, vw], .agg (bRow b u).toArray] w fun e w' => e = .returned (.tuple #[.agg #[vk, vw], .bool false]) ∧ Ext w w' := by
  refine calls_keep ?_
  have hK := hide_ hK0
  have hk1 := hK0.one'
  have hone := two_one hk1 hw1
  have hmax := hK0.len_le
  unfold maxLen at hmax
  have t1 : decide ((400 : Int) ≤ (K.length : Int)) = true := decide_eq_true (by omega)
  clear hK0
  go_enter Try.func63, Try.ntmps63
  go_wp2_with ((first
    | ((with_reducible refine at_box ?_); refine w_box _ [vk, vw] rfl rfl rfl rfl ?_; intro g1 w1 hg1 hX f1)
    | ((with_reducible refine at_box ?_); refine w_box _ (bRow b u) rfl rfl rfl rfl ?_; intro g3 w2 hg3 hx2 f3; replace f1 := f1.ext hx2; replace hX := hX.trans hx2; clear hx2)
    | ((with_reducible refine at_alloc ?_); refine w_alloc Try.stDoc rfl rfl ?_; intro g4 w2 hg4 hx2 f4; replace f1 := f1.ext hx2; replace hg4 := Nat.le_trans hX.size hg4; replace hX := hX.trans hx2; clear hx2)
    | ((with_reducible refine at_field ?_); (try refine w_yes _ _ _ rfl rfl rfl ?_); refine w_field Try.stDoc _ _ _ rfl rfl rfl (by omega) ?_)
    | ((with_reducible refine at_load ?_); refine w_aload Try.stDoc _ rfl rfl rfl f1 rfl ?_)
    | ((with_reducible refine at_load ?_); refine w_fload _ rfl rfl rfl f1 rfl (agg_of (by kernel_rfl)) ?_)
    | ((with_reducible refine at_bi ?_); refine w_rlen Try.enBlk.elS _ rfl rfl rfl (hK.out.ext BlkR.stays hX) ?_)
    | ((with_reducible refine at_store ?_); refine w_astore Try.stDoc _ _ (us := [vk, vw]) rfl rfl rfl rfl rfl f4 rfl rfl hone ?_; intro w3 hm3 f3; replace f4 : Fs w3 g4 [vk, vw] := f3; replace hX := hm3.after hX (fun i hi => by subst hi; exact hg4); clear hm3 f3)
    | fail) <;> (try simp only [Act.put, List.setIfInBounds_toArray, List.set_cons_zero, List.set_cons_succ]))
  exact bodyPost_ret (ret_two Try.stDoc rfl rfl rfl f4 rfl) rfl (Keep.intro ⟨rfl, hX⟩)

set_option maxRecDepth 100000 in
set_option maxHeartbeats 1600000 in
theorem refGrow_yes {W0 : WB} {w : World} {vk vw u : Value} {K : List BlkD} {b : BlkD} {rows : List (List Value)} (he : Ext W0.w w) (hs : SlS w vk 5 rows) (hB : RowsB W0 rows K) (hw1 : vw.oneCell' = true) (hlen : K.length < 400) (hu0 : W0.Has u b) (hraw0 : b.Raw) :
    Calls Try.prog 63 #[.agg #[vk, vw], .agg (bRow b u).toArray] w fun e w' => ∃ vk' rows', e = .returned (.tuple #[.agg #[vk', vw], .bool true]) ∧ SlS w' vk' 5 rows' ∧ RowsB W0 rows' (K ++ [b]) ∧ (∀ k, vk'.ownBlock = some k → w.heap.size ≤ k) ∧ Ext w w' := by
  refine calls_keep ?_
  have hK := hide_ (hB.recs hs he)
  have hrl := hB.len
  have hrone := hB.one
  have hrr := hB.at_
  have honeb := hide_ (blk_one (a := b.slot) (b := b.miner) (c := b.var) (d := b.parent) hu0.1.one')
  have hu := hide_ hu0
  have hraw := hide_ hraw0
  replace hrr := hide_ hrr
  replace hs := hide_ hs
  replace hrone := hide_ hrone
  have t1 : decide ((400 : Int) ≤ (K.length : Int)) = false := decide_eq_false (by omega)
  have hb1 := hide_ (show (([] : List (List Value)).length + rows.length) * 56 ≤ 140737488355328 by simp; omega)
  have hb2 := hide_ (show (rows.length + [bRow b u].length) * 56 ≤ 140737488355328 by simp; omega)
  clear hu0 hraw0 hB
  go_enter Try.func63, Try.ntmps63
  have tokA : True := trivial
  go_wp2_with ((first
    | ((with_reducible refine at_box ?_); refine w_box _ [vk, vw] rfl rfl rfl rfl ?_; intro g1 w1 hg1 hX f1)
    | ((with_reducible refine at_box ?_); refine w_box _ (bRow b u) rfl rfl rfl rfl ?_; intro g3 w2 hg3 hx2 f3; replace f1 := f1.ext hx2; replace hX := hX.trans hx2; clear hx2)
    | ((with_reducible refine at_alloc ?_); refine w_alloc Try.stDoc rfl rfl ?_; intro g4 w2 hg4 hx2 f4; have hg41 := hide_ (show ¬ g4 = g1 from fun e => by have := f1.lt; omega); replace f1 := f1.ext hx2; replace f3 := f3.ext hx2; replace hg4 := Nat.le_trans hX.size hg4; replace hX := hX.trans hx2; clear hx2)
    | ((with_reducible refine at_field ?_); (try refine w_yes _ _ _ rfl rfl rfl ?_); refine w_field Try.stDoc _ _ _ rfl rfl rfl (by omega) ?_)
    | ((with_reducible refine at_load ?_); refine w_aload Try.stDoc _ rfl rfl rfl f1 rfl ?_)
    | ((with_reducible refine at_load ?_); refine w_fload _ rfl rfl rfl f1 rfl (agg_of (by kernel_rfl)) ?_)
    | ((with_reducible refine at_bi ?_); refine w_rlen Try.enBlk.elS _ rfl rfl rfl (hK.out.ext BlkR.stays hX) ?_)
    | ((with_reducible refine at_lit ?_); have _t := tokA; refine w_nnew Try.enBlk [] rfl rfl rfl (by simp) rfl (by omega) ?_; intro v12 w5 B hB1 hB2 hx3 r12; have hg1' := Nat.not_le.2 (Nat.lt_of_lt_of_le f1.lt hB1); have hg3' := Nat.not_le.2 (Nat.lt_of_lt_of_le f3.lt hB1); have hg4' := Nat.not_le.2 (Nat.lt_of_lt_of_le f4.lt hB1); have hBw := Nat.le_trans hX.size hB1; replace f1 := f1.ext hx3; replace f3 := f3.ext hx3; replace f4 := f4.ext hx3; replace hX := hX.trans hx3; clear tokA hx3 hB1)
    | ((with_reducible refine at_bi ?_); refine w_napp0 Try.enBlk _ _ rfl rfl rfl rfl r12 (hs.out.ext hX) hrone.out hb1.out ?_; intro v15 w7 hm7 r15; replace hm7 := hm7.mono (G := fun k => B ≤ k) (fun k _ h => And.left h); replace f1 := f1.mod hm7 hg1'; replace f3 := f3.mod hm7 hg3'; replace f4 := f4.mod hm7 hg4'; replace hX := hm7.after hX (fun i hi => Nat.le_trans hBw hi); have hB2' := hB2; replace r15 : RowN (fun k => B ≤ k) w7 _ 5 v15 rows := r15.mono (fun k hk => Or.elim hk (fun h => And.left h) (fun h => Nat.le_trans hB2 (And.left h))); replace hB2 := Nat.le_trans hB2 hm7.size; clear hm7 r12)
    | ((with_reducible refine at_load ?_); refine w_aload Try.stBlk _ rfl rfl rfl f3 rfl ?_)
    | ((with_reducible refine at_lit ?_); refine w_nnew Try.enBlk [bRow b u] rfl rfl rfl (by simp [bRow]) rfl (by simp) ?_; intro v18 w5 B2 hC1 hC2 hx3 r18; replace f1 := f1.ext hx3; replace f3 := f3.ext hx3; replace f4 := f4.ext hx3; replace r15 := r15.ext hx3; replace hX := hX.trans hx3; replace hB2 := Nat.le_trans hB2 hx3.size; clear hx3 hC1 hC2)
    | ((with_reducible refine at_bi ?_); refine w_napp Try.enBlk _ _ rfl rfl rfl rfl r15 r18.slS (by simp) (fun y hy => by rw [List.mem_singleton.1 hy]; exact honeb.out) hb2.out ?_; intro v19 w9 hm9 r19; replace f1 := f1.mod hm9 hg1'; replace f4 := f4.mod hm9 hg4'; replace hX := hm9.after hX (fun i hi => Nat.le_trans hBw hi); replace r19 : RowN (fun k => B ≤ k) w9 _ 5 v19 (rows ++ [bRow b u]) := r19.mono (fun k hk => Or.elim hk (fun h => h) (fun h => Nat.le_trans hB2 (And.left h))); have hc19 := slS_cell r19.slS; have hone19 := two_one hc19.2 hw1; clear hm9 r15 r18 f3)
    | ((with_reducible refine at_store ?_); refine w_fstore _ _ rfl rfl rfl rfl rfl f1 (by simp) hc19.1 hc19.2 (by kernel_rfl) ?_; intro w10 hm10 f10; replace f1 : Fs w10 g1 [v19, vw] := f10; replace r19 := r19.mod hm10 (fun k hk e => hg1' (e ▸ hk)); replace f4 := f4.mod hm10 hg41.out; replace hX := hm10.after hX (fun i hi => by subst hi; exact hg1); clear hm10 f10)
    | ((with_reducible refine at_store ?_); refine w_astore Try.stDoc _ _ (us := [v19, vw]) rfl rfl rfl rfl rfl f4 rfl rfl hone19 ?_; intro w3 hm3 f3; replace f4 : Fs w3 g4 [v19, vw] := f3; replace r19 := r19.mod hm3 (fun k hk e => hg4' (e ▸ hk)); replace hX := hm3.after hX (fun i hi => by subst hi; exact hg4); clear hm3 f3)
    | fail) <;> (try simp only [Act.put, List.setIfInBounds_toArray, List.set_cons_zero, List.set_cons_succ]))
  exact bodyPost_ret (ret_two Try.stDoc rfl rfl rfl f4 rfl) rfl (Keep.intro ⟨v19, rows ++ [bRow b u], rfl, r19.slS, ⟨by simp [hrl], rows_snoc hrl hrr.out hu.out hraw.out⟩, fun k hk => Nat.le_trans hBw (r19.inF k hk), hX⟩)
end Go.Proofs.Ytdoeoncmhaihbaa
namespace Go.Proofs.Ytdoeoncmhaihbaa
set_option maxRecDepth 100000
open Go.RowKit Go.ChangeShapes Go.WideShapes Go.ChangeAt

/-! ### One pass over those that wait, as plain mathematics -/
def passF (K : List BlkD) (o : List Int) (l : List BlkD) : List BlkD × List BlkD × List Int × Bool :=
  match TrS.pick K l with
  | none => (K, l, o, false)
  | some (x, r) => if K.length < 400 then (K ++ [x], r, o ++ [x.name], true) else (K, r, o, true)
theorem pick_snoc {K : List BlkD} {y : BlkD} : ∀ {l : List BlkD}, TrS.pick K (l ++ [y]) = match TrS.pick K l with
    | some (x, r) => some (x, r ++ [y])
    | none => if TrS.ready K y = true then some (y, l) else none
  | [] => by simp [TrS.pick]
  | x :: l => by
    have ih := pick_snoc (K := K) (y := y) (l := l)
    simp only [List.cons_append, TrS.pick]
    by_cases hx : TrS.ready K x = true
    · simp [hx]
    · rw [ih]
      cases hp : TrS.pick K l with
      | none =>
        by_cases hy : TrS.ready K y = true
        · simp [hx, hy]
        · simp [hx, hy]
      | some p => simp [hx]
section
variable {K K2 V R l : List BlkD} {o o2 : List Int} {y : BlkD} {f : Nat} {b : Bool}
theorem passF_no (h : passF K o l = (K2, R, o2, false)) : TrS.pick K l = none ∧ K2 = K ∧ R = l ∧ o2 = o := by
  unfold passF at h
  cases hp : TrS.pick K l with
  | none => rw [hp] at h; simp at h; exact ⟨rfl, h.1.symm, h.2.1.symm, h.2.2.symm⟩
  | some p =>
    rw [hp] at h
    split at h
    · rename_i he; cases he
    · split at h <;> simp at h
theorem passF_keep (h : passF K o l = (K2, R, o2, b)) (hb : b = true ∨ TrS.ready K y = false) : passF K o (l ++ [y]) = (K2, R ++ [y], o2, b) := by
  unfold passF at h ⊢
  rw [pick_snoc]
  cases hp : TrS.pick K l with
  | none =>
    rw [hp] at h
    simp at h
    obtain ⟨rfl, rfl, rfl, rfl⟩ := h
    have hy : TrS.ready K y = false := hb.resolve_left (by simp)
    simp [hy]
  | some p =>
    obtain ⟨x, r⟩ := p
    rw [hp] at h
    simp only at h ⊢
    split at h
    · rename_i hk
      simp at h
      obtain ⟨rfl, rfl, rfl, rfl⟩ := h
      rw [if_pos hk]
    · rename_i hk
      simp at h
      obtain ⟨rfl, rfl, rfl, rfl⟩ := h
      rw [if_neg hk]
theorem passF_take (h : passF K o l = (K2, R, o2, false)) (hy : TrS.ready K y = true) : passF K o (l ++ [y]) = if K.length < 400 then (K ++ [y], l, o ++ [y.name], true) else (K, l, o, true) := by
  obtain ⟨hp, _⟩ := passF_no h
  unfold passF
  rw [pick_snoc, hp]
  simp [hy]
theorem drain_no (h : passF K o V = (K2, R, o2, false)) : TrS.drain f K V o = (K, V, o) := by
  obtain ⟨hp, _⟩ := passF_no h
  cases f with
  | zero => rfl
  | succ f => simp [TrS.drain, hp]
theorem passF_yes (h : passF K o V = (K2, R, o2, true)) : ∃ x, TrS.pick K V = some (x, R) ∧ R.length + 1 = V.length ∧ ∀ f, TrS.drain (f + 1) K V o = TrS.drain f K2 R o2 := by
  unfold passF at h
  cases hp : TrS.pick K V with
  | none => rw [hp] at h; simp at h
  | some p =>
    obtain ⟨x, r⟩ := p
    rw [hp] at h
    have hl := (TrS.pick_some hp).2.length_eq
    simp only at h
    split at h
    · rename_i hk
      simp at h
      obtain ⟨rfl, rfl, rfl⟩ := h
      exact ⟨x, rfl, by simpa using hl.symm, fun f => by simp [TrS.drain, hp, hk]⟩
    · rename_i hk
      simp at h
      obtain ⟨rfl, rfl, rfl⟩ := h
      exact ⟨x, rfl, by simpa using hl.symm, fun f => by simp [TrS.drain, hp, hk]⟩
theorem passF_lens (h : passF K o l = (K2, R, o2, b)) (hK : K.length ≤ 400) : K2.length ≤ 400 ∧ R.length ≤ l.length ∧ o2.length ≤ o.length + 1 := by
  cases b with
  | false => obtain ⟨_, rfl, rfl, rfl⟩ := passF_no h; exact ⟨hK, Nat.le_refl _, Nat.le_succ _⟩
  | true =>
    have hx := passF_yes h
    obtain ⟨x, hp, hl, _⟩ := hx
    unfold passF at h
    rw [hp] at h
    simp only at h
    split at h
    · simp at h; obtain ⟨rfl, rfl⟩ := h; exact ⟨by simp; omega, by omega, by simp⟩
    · simp at h; obtain ⟨rfl, rfl⟩ := h; exact ⟨hK, by omega, by omega⟩
end

/-! ### Slices that stay -/
/-- v reads as l, its records as they were at W0; where there are any they lie in a block of which S holds. -/
def KP (W0 : WB) (S : Nat → Prop) (w : World) (v : Value) (l : List BlkD) : Prop :=
  ∃ rows : List (List Value), SlS w v 5 rows ∧ RowsB W0 rows l ∧ (rows ≠ [] → ∀ k, v.ownBlock = some k → S k ∧ k < w.heap.size)
section
variable {W0 : WB} {w w' : World} {S S' F : Nat → Prop} {v : Value} {l : List BlkD}
theorem KP.recs (h : KP W0 S w v l) (he : Ext W0.w w) : Recs 5 BlkR w v l := by
  obtain ⟨rows, h1, h2, _⟩ := h; exact h2.recs h1 he
theorem KP.one (h : KP W0 S w v l) : v.oneCell' = true := by
  obtain ⟨rows, h1, _⟩ := h; exact (slS_cell h1).2
theorem KP.ext (h : KP W0 S w v l) (he : Ext w w') : KP W0 S w' v l := by
  obtain ⟨rows, h1, h2, h3⟩ := h
  exact ⟨rows, h1.ext he, h2, fun hr k hk => ⟨(h3 hr k hk).1, Nat.lt_of_lt_of_le (h3 hr k hk).2 he.size⟩⟩
theorem KP.mod (h : KP W0 S w v l) (hm : Mod F w w') (hS : ∀ k, k < w.heap.size → S k → ¬ F k) : KP W0 S w' v l := by
  obtain ⟨rows, h1, h2, h3⟩ := h
  cases rows with
  | nil =>
    obtain ⟨A, c, rfl, g1, g2, _⟩ := h1
    exact ⟨[], ⟨A, c, rfl, g1, g2, fun k row hk => by simp at hk⟩, h2, fun hr => absurd rfl hr⟩
  | cons r rs => exact ⟨_, h1.mod hm fun k hk => hS k (h3 (by simp) k hk).2 (h3 (by simp) k hk).1, h2, fun hr k hk => ⟨(h3 hr k hk).1, Nat.lt_of_lt_of_le (h3 hr k hk).2 hm.size⟩⟩
theorem KP.mono (h : KP W0 S w v l) (hs : ∀ k, k < w.heap.size → S k → S' k) : KP W0 S' w v l := by
  obtain ⟨rows, h1, h2, h3⟩ := h
  exact ⟨rows, h1, h2, fun hr k hk => ⟨hs k (h3 hr k hk).2 (h3 hr k hk).1, (h3 hr k hk).2⟩⟩
theorem KP.swap (h : KP W0 S w v l) (hm : Mod F w w') (hs : ∀ k, k < w.heap.size → S k → ¬ F k ∧ S' k) : KP W0 S' w' v l := ((h.mono (S' := fun k => ¬ F k ∧ S' k) hs).mod hm fun _ _ h => h.1).mono fun _ _ h => h.2
theorem slS_lt {rows : List (List Value)} (h : SlS w v 5 rows) (hr : rows ≠ []) {k : Nat} (hk : v.ownBlock = some k) : k < w.heap.size := by
  obtain ⟨ad, c, rfl, he, hc⟩ := slS_cells h hr (by omega)
  have hl := flat_len he
  have hpos := List.length_pos_iff.2 hr
  have h0 : 0 < rows.flatten.length := by omega
  have := hc 0 _ (List.getElem?_eq_getElem h0)
  rw [Addr.add_zero'] at this
  have hlt := World.block_lt_of_cell? w _ this
  cases hk
  exact hlt
theorem KP.ofRecs {W0 : World} (h : Recs 5 BlkR W0 v l) (he : Ext W0 w) (hS : ∀ k, k < W0.heap.size → S k) : KP (WB.all W0) S w v l := by
  obtain ⟨rows, h1, h2, h3⟩ := h
  exact ⟨rows, h1.ext he, ⟨h2, fun k row d hk hd => by obtain ⟨⟨u, g1, g2⟩, g3⟩ := h3 k row d hk hd; exact ⟨⟨u, g1, g2, trivial⟩, g3⟩⟩, fun hr k hk => ⟨hS k (slS_lt h1 hr hk), Nat.lt_of_lt_of_le (slS_lt h1 hr hk) he.size⟩⟩
theorem KP.new {rows : List (List Value)} (h1 : SlS w v 5 rows) (h2 : RowsB W0 rows l) (hS : ∀ k, v.ownBlock = some k → S k) : KP W0 S w v l :=
  ⟨rows, h1, h2, fun hr k hk => ⟨hS k hk, slS_lt h1 hr hk⟩⟩
end
def zero2 : List Value := [.slice none 0 0, .slice none 0 0]
/-- While a block is added: the tree's two slices in g2, the answer's place g4, the names that are known by that, those that still wait. -/
structure St8 (Wr : WB) (W0 : World) (S : Nat → Prop) (w : World) (g2 g4 : Nat) (vk vw v12 v14 : Value) (K V R : List BlkD) (o : List Int) : Prop where
  f2 : Fs w g2 [vk, vw]
  f4 : Fs w g4 zero2
  kk : KP Wr (fun k => (S k ∨ W0.heap.size ≤ k) ∧ k ≠ g2 ∧ k ≠ g4 ∧ v12.ownBlock ≠ some k ∧ v14.ownBlock ≠ some k) w vk K
  kv : KP Wr (fun k => (S k ∨ W0.heap.size ≤ k) ∧ k ≠ g2 ∧ k ≠ g4 ∧ v12.ownBlock ≠ some k ∧ v14.ownBlock ≠ some k) w vw V
  o12 : OwnI W0.heap.size w v12 o
  n12 : ∀ k, v12.ownBlock = some k → k ≠ g2 ∧ k ≠ g4 ∧ v14.ownBlock ≠ some k
  r14 : ∃ rows : List (List Value), RowN (fun k => v14.ownBlock = some k) w 59 5 v14 rows ∧ RowsB Wr rows R
  n14 : ∀ k, v14.ownBlock = some k → k ≠ g2 ∧ k ≠ g4 ∧ W0.heap.size ≤ k
  ext : Ext W0 w
  er : Ext Wr.w W0
  hg2 : W0.heap.size ≤ g2
  hg4 : W0.heap.size ≤ g4
  h24 : g2 ≠ g4
section
variable {Wr : WB} {W0 w w' : World} {S : Nat → Prop} {g2 g4 : Nat} {vk vw v12 v14 : Value} {K V R : List BlkD} {o : List Int}
theorem St8.extr (h : St8 Wr W0 S w g2 g4 vk vw v12 v14 K V R o) : Ext Wr.w w := h.er.trans h.ext
theorem St8.lt14 (h : St8 Wr W0 S w g2 g4 vk vw v12 v14 K V R o) {k : Nat} (hk : v14.ownBlock = some k) : k < w.heap.size := by
  obtain ⟨rows, h1, _⟩ := h.r14; exact h1.lt hk
theorem St8.extend (h : St8 Wr W0 S w g2 g4 vk vw v12 v14 K V R o) (he : Ext w w') : St8 Wr W0 S w' g2 g4 vk vw v12 v14 K V R o := by
  obtain ⟨rows, h1, h2⟩ := h.r14
  exact ⟨h.f2.ext he, h.f4.ext he, h.kk.ext he, h.kv.ext he, h.o12.ext he, h.n12, ⟨rows, h1.ext he, h2⟩, h.n14, h.ext.trans he, h.er, h.hg2, h.hg4, h.h24⟩
/-- Another slice is the tree's. -/
theorem St8.store {vk1 : Value} {K1 : List BlkD} (h : St8 Wr W0 S w g2 g4 vk vw v12 v14 K V R o) (hk : KP Wr (fun k => (S k ∨ W0.heap.size ≤ k) ∧ k ≠ g2 ∧ k ≠ g4 ∧ v12.ownBlock ≠ some k ∧ v14.ownBlock ≠ some k) w vk1 K1) (hm : Mod (fun k => k = g2) w w') (f : Fs w' g2 [vk1, vw]) : St8 Wr W0 S w' g2 g4 vk1 vw v12 v14 K1 V R o := by
  obtain ⟨rows, h1, h2⟩ := h.r14
  exact ⟨f, h.f4.mod hm fun e => h.h24 e.symm, hk.mod hm fun k _ hs => hs.2.1, h.kv.mod hm fun k _ hs => hs.2.1, own_mod h.o12 hm fun k hk => (h.n12 k hk).1, h.n12, ⟨rows, h1.mod hm fun k hk => (h.n14 k hk).1, h2⟩, h.n14, hm.after h.ext (fun i hi => by subst hi; exact h.hg2), h.er, h.hg2, h.hg4, h.h24⟩
/-- One more among those that still wait. -/
theorem St8.rest {v' u : Value} {x : BlkD} {rows : List (List Value)} (h : St8 Wr W0 S w g2 g4 vk vw v12 v14 K V R o) (hB : RowsB Wr rows R) (hm : Mod (fun k => v14.ownBlock = some k) w w') (hr : RowN (grow (fun k => v14.ownBlock = some k) w w') w' 59 5 v' (rows ++ [bRow x u])) (hu : Wr.Has u x) (hx : x.Raw) :
    St8 Wr W0 S w' g2 g4 vk vw v12 v' K V (R ++ [x]) o := by
  have key : ∀ k, v'.ownBlock = some k → v14.ownBlock = some k ∨ w.heap.size ≤ k := fun k hk => Or.elim (hr.inF k hk) .inl fun e => .inr e.1
  have l2 := h.f2.lt; have l4 := h.f4.lt; have hs := h.ext.size
  have hse : ∀ k, k < w.heap.size → ((S k ∨ W0.heap.size ≤ k) ∧ k ≠ g2 ∧ k ≠ g4 ∧ v12.ownBlock ≠ some k ∧ v14.ownBlock ≠ some k) → ¬ v14.ownBlock = some k ∧ ((S k ∨ W0.heap.size ≤ k) ∧ k ≠ g2 ∧ k ≠ g4 ∧ v12.ownBlock ≠ some k ∧ v'.ownBlock ≠ some k) := fun k hk ⟨z, a, b, c, d⟩ => ⟨d, z, a, b, c, fun e => (key k e).elim d fun e => by omega⟩
  refine ⟨h.f2.mod hm fun e => (h.n14 _ e).1 rfl, h.f4.mod hm fun e => (h.n14 _ e).2.1 rfl, h.kk.swap hm hse, h.kv.swap hm hse, own_mod h.o12 hm fun k hk => (h.n12 k hk).2.2, fun k hk => ⟨(h.n12 k hk).1, (h.n12 k hk).2.1, fun e => (key k e).elim (h.n12 k hk).2.2 fun e => ?_⟩, ⟨rows ++ [bRow x u], ⟨hr.own, hr.each, fun k hk => hk⟩, by simp [hB.len], rows_snoc hB.len hB.at_ hu hx⟩, fun k hk => ?_, hm.after h.ext (fun i hi => (h.n14 i hi).2.2), h.er, h.hg2, h.hg4, h.h24⟩
  · have := (own_block_lt (g := k) h.o12 hk).2; omega
  · rcases key k hk with e | e
    · exact h.n14 k e
    · exact ⟨by omega, by omega, by omega⟩
/-- One more name that is known by that. -/
theorem St8.out {v9 : Value} {o9 : List Int} (h : St8 Wr W0 S w g2 g4 vk vw v12 v14 K V R o) (h9 : OwnI W0.heap.size w' v9 o9) (hg : w.grownBy w' v12.ownBlock) (hv : v9.ownBlock = v12.ownBlock ∨ v9.ownBlock = some w.heap.size) : St8 Wr W0 S w' g2 g4 vk vw v9 v14 K V R o9 := by
  have hm := Mod.grown hg
  have key : ∀ k, v9.ownBlock = some k → v12.ownBlock = some k ∨ w.heap.size ≤ k := fun k hk => hv.elim (fun e => .inl (e ▸ hk)) fun e => .inr (by rw [e] at hk; injection hk with hk; omega)
  have l2 := h.f2.lt; have l4 := h.f4.lt; have hs := h.ext.size
  have hse : ∀ k, k < w.heap.size → ((S k ∨ W0.heap.size ≤ k) ∧ k ≠ g2 ∧ k ≠ g4 ∧ v12.ownBlock ≠ some k ∧ v14.ownBlock ≠ some k) → ¬ v12.ownBlock = some k ∧ ((S k ∨ W0.heap.size ≤ k) ∧ k ≠ g2 ∧ k ≠ g4 ∧ v9.ownBlock ≠ some k ∧ v14.ownBlock ≠ some k) := fun k hk ⟨z, a, b, c, d⟩ => ⟨c, z, a, b, fun e => (key k e).elim c fun e => by omega, d⟩
  obtain ⟨rows, h1, h2⟩ := h.r14
  refine ⟨h.f2.mod hm fun e => (h.n12 _ e).1 rfl, h.f4.mod hm fun e => (h.n12 _ e).2.1 rfl, h.kk.swap hm hse, h.kv.swap hm hse, h9, fun k hk => ?_, ⟨rows, h1.mod hm fun k hk e => (h.n12 k e).2.2 hk, h2⟩, h.n14, hm.after h.ext (fun i hi => (own_block_lt (g := i) h.o12 hi).1), h.er, h.hg2, h.hg4, h.h24⟩
  rcases key k hk with e | e
  · exact h.n12 k e
  · exact ⟨by omega, by omega, fun e2 => by have := h.lt14 e2; omega⟩
/-- A list of those that still wait is begun. -/
theorem St8.fresh {v' : Value} {B : Nat} (h : St8 Wr W0 S w g2 g4 vk vw v12 (.slice none 0 0) K V [] o) (he : Ext w w') (hB : w.heap.size ≤ B) (hr : RowN (fun k => B ≤ k ∧ k < w'.heap.size) w' 59 5 v' []) : St8 Wr W0 S w' g2 g4 vk vw v12 v' K V [] o := by
  have key : ∀ k, v'.ownBlock = some k → w.heap.size ≤ k := fun k hk => Nat.le_trans hB (hr.inF k hk).1
  have l2 := h.f2.lt; have l4 := h.f4.lt; have hs := h.ext.size
  have hse : ∀ k, k < w.heap.size → ((S k ∨ W0.heap.size ≤ k) ∧ k ≠ g2 ∧ k ≠ g4 ∧ v12.ownBlock ≠ some k ∧ (Value.slice none 0 0).ownBlock ≠ some k) → (S k ∨ W0.heap.size ≤ k) ∧ k ≠ g2 ∧ k ≠ g4 ∧ v12.ownBlock ≠ some k ∧ v'.ownBlock ≠ some k := fun k hk ⟨z, a, b, c, d⟩ => ⟨z, a, b, c, fun e => by have := key k e; omega⟩
  refine ⟨h.f2.ext he, h.f4.ext he, (h.kk.mono hse).ext he, (h.kv.mono hse).ext he, h.o12.ext he, fun k hk => ⟨(h.n12 k hk).1, (h.n12 k hk).2.1, fun e => ?_⟩, ⟨[], ⟨hr.own, hr.each, fun k hk => hk⟩, rfl, by simp⟩, fun k hk => ?_, h.ext.trans he, h.er, h.hg2, h.hg4, h.h24⟩
  · have := key k e; have := (own_block_lt (g := k) h.o12 hk).2; omega
  · have := key k hk; exact ⟨by omega, by omega, by omega⟩
/-- The list of those that still wait is the tree's. -/
theorem St8.close (h : St8 Wr W0 S w g2 g4 vk vw v12 v14 K V R o) (hm : Mod (fun k => k = g2) w w') (f : Fs w' g2 [vk, v14]) : St8 Wr W0 S w' g2 g4 vk v14 v12 (.slice none 0 0) K R [] o := by
  obtain ⟨rows, h1, h2⟩ := h.r14
  have h1' := h1.mod hm fun k hk => (h.n14 k hk).1
  refine ⟨f, h.f4.mod hm fun e => h.h24 e.symm, h.kk.swap hm fun k _ hs => ⟨hs.2.1, hs.1, hs.2.1, hs.2.2.1, hs.2.2.2.1, by simp [Value.ownBlock]⟩, KP.new h1'.slS h2 fun k hk => ⟨.inr (h.n14 k hk).2.2, (h.n14 k hk).1, (h.n14 k hk).2.1, fun e => (h.n12 k e).2.2 hk, by simp [Value.ownBlock]⟩, own_mod h.o12 hm fun k hk => (h.n12 k hk).1, fun k hk => ⟨(h.n12 k hk).1, (h.n12 k hk).2.1, by simp [Value.ownBlock]⟩, ⟨[], RowN.nil _ _ _, rfl, by simp⟩, fun k hk => by simp [Value.ownBlock] at hk, hm.after h.ext (fun i hi => by subst hi; exact h.hg2), h.er, h.hg2, h.hg4, h.h24⟩
end
end Go.Proofs.Ytdoeoncmhaihbaa
namespace Go.Proofs.Ytdoeoncmhaihbaa
set_option maxRecDepth 100000
open Go.RowKit Go.ChangeShapes Go.WideShapes Go.ChangeAt

theorem ret_3 {P : Program} {t : TypeId} {n : Nat} {zs : List Value} {w : World} (E : St P t n zs) {fn : Func} {s s' s'' g : Nat} {cs : List Value} {tmps : Array Value} {v v' : Value} (hrs : fn.results = #[.cell s t, .tmp s', .tmp s'']) (hp : tmps.getD s undef = .pointer (some ⟨g, 0, none⟩)) (hv : tmps.getD s' undef = v) (hv' : tmps.getD s'' undef = v') (h : Fs w g cs) (hl : cs.length = n) :
    (results fn tmps).run P w = .ok (.tuple #[.agg cs.toArray, v, v']) w := by
  have hr := run_loadVar_agg E h hl
  rw [Array.getD_eq_getD_getElem?] at hp hv hv'
  simp only [results, hrs]
  simp [hp, hv, hv', asAddr, hr]
theorem in_has {V : List BlkD} {n : Int} : decide (n ∈ V.map BlkD.name) = TrS.has V n := by
  rw [Bool.eq_iff_iff, TrS.has_iff]; simp

set_option maxRecDepth 100000 in
set_option maxHeartbeats 1600000 in
theorem refAdd_c1 {w : World} {vk vw u : Value} {K V : List BlkD} {b : BlkD} (hK0 : Recs 5 BlkR w vk K) (hV0 : Recs 5 BlkR w vw V) (hV16 : V.length ≤ 16) (hu0 : Recs 2 TxR w u b.txs) (hraw0 : b.Raw) (hc : b.name = 0 ∨ TrS.has K b.name = true ∨ TrS.has V b.name = true) :
    Calls Try.prog 45 #[.agg #[vk, vw], .agg (bRow b u).toArray] w fun e w' => e = .returned (.tuple #[.agg #[vk, vw], .slice none 0 0, .bool false]) ∧ Ext w w' := by
  refine calls_keep ?_
  have hone := two_one hK0.one' hV0.one'
  have hK := hide_ hK0
  have hV := hide_ hV0
  have hu := hide_ hu0
  have hraw := hide_ hraw0
  obtain ⟨nm, hnm⟩ : ∃ n, b.name = n := ⟨_, rfl⟩
  rw [hnm] at hc
  obtain ⟨q, hq⟩ : ∃ q, TrS.has K nm = q := ⟨_, rfl⟩
  obtain ⟨r, hr⟩ : ∃ q, decide (nm ∈ V.map BlkD.name) = q := ⟨_, rfl⟩
  rw [hq, ← in_has, hr] at hc
  have hnm' := hide_ hnm
  have hq' := hide_ hq
  have hr' := hide_ hr
  clear hK0 hV0 hu0 hraw0 hnm hq hr
  go_enter Try.func45, Try.ntmps45
  by_cases c0 : nm = 0
  · have c1 : (nm == 0) = true := by simpa using c0
    clear hc c0
    go_wp2_with ((first
      | ((with_reducible refine at_box ?_); refine w_box _ [vk, vw] rfl rfl rfl rfl ?_; intro g2 w1 hg2 hX f2)
      | ((with_reducible refine at_box ?_); refine w_box _ (bRow b u) rfl rfl rfl rfl ?_; intro g3 w2 hg3 hx2 f3; replace f2 := f2.ext hx2; replace hX := hX.trans hx2; clear hx2)
      | ((with_reducible refine at_alloc ?_); refine w_alloc Try.stDoc rfl rfl ?_; intro g4 w2 hg4 hx2 f4; have hg24 := hide_ (show g2 ≠ g4 from fun e => by have := f2.lt; omega); replace f2 := f2.ext hx2; replace f3 := f3.ext hx2; replace hg4 := Nat.le_trans hX.size hg4; replace hX := hX.trans hx2; clear hx2)
      | (go_at_call 46; have _t := f2; refine (refBName_any (b := b) (hu.out.ext TxR.stays hX) hraw.out.parent).mono ?_; rintro e w4 ⟨rfl, hx⟩; rw [hnm'.out]; replace f2 := f2.ext hx; replace f3 := f3.ext hx; replace f4 := f4.ext hx; replace hX := hX.trans hx; clear hx)
      | (go_at_call 34; refine (refGet_any (vw := vw) (n := nm) (hK.out.ext BlkR.stays hX)).mono ?_; rintro e w4 ⟨u12, rfl, hu12, hr12, hx⟩; rw [hq'.out]; have hone12 := blk_one (a := (getOr K nm).slot) (b := (getOr K nm).miner) (c := (getOr K nm).var) (d := (getOr K nm).parent) hu12.one'; clear hr12 hu12; replace f2 := f2.ext hx; replace f3 := f3.ext hx; replace f4 := f4.ext hx; replace hX := hX.trans hx; clear hx)
      | ((with_reducible refine at_alloc ?_); refine w_alloc Try.stBlk rfl rfl ?_; intro g8 w2 hg8 hx f8)
      | ((with_reducible refine at_store ?_); refine w_astore Try.stBlk _ _ (us := bRow (getOr K nm) u12) rfl rfl rfl rfl rfl f8 rfl rfl hone12 ?_; intro w3 hm3 f9; replace hx := hm3.after hx (fun i hi => by subst hi; exact hg8); clear f9 hm3 f8 hg8 hone12; replace f2 := f2.ext hx; replace f3 := f3.ext hx; replace f4 := f4.ext hx; replace hX := hX.trans hx; clear hx)
      | ((with_reducible refine at_load ?_); (try refine w_yes _ _ _ rfl rfl rfl ?_); refine w_aload Try.stDoc _ rfl rfl rfl f2 rfl ?_)
      | ((with_reducible refine at_load ?_); (try refine w_yes _ _ _ rfl rfl rfl ?_); refine w_aload Try.stBlk _ rfl rfl rfl f3 rfl ?_)
      | ((with_reducible refine at_store ?_); refine w_astore Try.stDoc _ _ (us := [vk, vw]) rfl rfl rfl rfl rfl f4 rfl rfl hone ?_; intro w3 hm3 f9; replace f4 : Fs w3 g4 [vk, vw] := f9; replace hX := hm3.after hX (fun i hi => by subst hi; exact hg4); clear hm3 f9)
      | fail) <;> (try simp only [Act.put, List.setIfInBounds_toArray, List.set_cons_zero, List.set_cons_succ]))
    exact bodyPost_ret (ret_3 Try.stDoc rfl rfl rfl rfl f4 rfl) rfl (Keep.intro ⟨rfl, hX⟩)
  have c1 : (nm == 0) = false := by simpa using c0
  replace hc := hc.resolve_left c0
  clear c0
  cases q
  · obtain rfl : r = true := hc.resolve_left (by simp)
    clear hc
    go_wp2_with ((first
      | ((with_reducible refine at_box ?_); refine w_box _ [vk, vw] rfl rfl rfl rfl ?_; intro g2 w1 hg2 hX f2)
      | ((with_reducible refine at_box ?_); refine w_box _ (bRow b u) rfl rfl rfl rfl ?_; intro g3 w2 hg3 hx2 f3; replace f2 := f2.ext hx2; replace hX := hX.trans hx2; clear hx2)
      | ((with_reducible refine at_alloc ?_); refine w_alloc Try.stDoc rfl rfl ?_; intro g4 w2 hg4 hx2 f4; have hg24 := hide_ (show g2 ≠ g4 from fun e => by have := f2.lt; omega); replace f2 := f2.ext hx2; replace f3 := f3.ext hx2; replace hg4 := Nat.le_trans hX.size hg4; replace hX := hX.trans hx2; clear hx2)
      | (go_at_call 46; have _t := f2; refine (refBName_any (b := b) (hu.out.ext TxR.stays hX) hraw.out.parent).mono ?_; rintro e w4 ⟨rfl, hx⟩; rw [hnm'.out]; replace f2 := f2.ext hx; replace f3 := f3.ext hx; replace f4 := f4.ext hx; replace hX := hX.trans hx; clear hx)
      | (go_at_call 34; refine (refGet_any (vw := vw) (n := nm) (hK.out.ext BlkR.stays hX)).mono ?_; rintro e w4 ⟨u12, rfl, hu12, hr12, hx⟩; rw [hq'.out]; have hone12 := blk_one (a := (getOr K nm).slot) (b := (getOr K nm).miner) (c := (getOr K nm).var) (d := (getOr K nm).parent) hu12.one'; clear hr12 hu12; replace f2 := f2.ext hx; replace f3 := f3.ext hx; replace f4 := f4.ext hx; replace hX := hX.trans hx; clear hx)
      | ((with_reducible refine at_alloc ?_); refine w_alloc Try.stBlk rfl rfl ?_; intro g8 w2 hg8 hx f8)
      | ((with_reducible refine at_store ?_); refine w_astore Try.stBlk _ _ (us := bRow (getOr K nm) u12) rfl rfl rfl rfl rfl f8 rfl rfl hone12 ?_; intro w3 hm3 f9; replace hx := hm3.after hx (fun i hi => by subst hi; exact hg8); clear f9 hm3 f8 hg8 hone12; replace f2 := f2.ext hx; replace f3 := f3.ext hx; replace f4 := f4.ext hx; replace hX := hX.trans hx; clear hx)
      | (go_at_call 61; refine (refWaiting_any (vk := vk) (hV.out.ext BlkR.stays hX) hV16).mono ?_; rintro e w4 ⟨v34, rfl, o34, hx⟩; replace o34 := o34.ints; replace f2 := f2.ext hx; replace f3 := f3.ext hx; replace f4 := f4.ext hx; replace hX := hX.trans hx; clear hx)
      | (go_at_call 60; refine (refIn_any (n := nm) o34).mono ?_; rintro e w4 ⟨rfl, hx⟩; rw [hr'.out]; clear o34; replace f2 := f2.ext hx; replace f3 := f3.ext hx; replace f4 := f4.ext hx; replace hX := hX.trans hx; clear hx)
      | ((with_reducible refine at_load ?_); (try refine w_yes _ _ _ rfl rfl rfl ?_); refine w_aload Try.stDoc _ rfl rfl rfl f2 rfl ?_)
      | ((with_reducible refine at_load ?_); (try refine w_yes _ _ _ rfl rfl rfl ?_); refine w_aload Try.stBlk _ rfl rfl rfl f3 rfl ?_)
      | ((with_reducible refine at_store ?_); refine w_astore Try.stDoc _ _ (us := [vk, vw]) rfl rfl rfl rfl rfl f4 rfl rfl hone ?_; intro w3 hm3 f9; replace f4 : Fs w3 g4 [vk, vw] := f9; replace hX := hm3.after hX (fun i hi => by subst hi; exact hg4); clear hm3 f9)
      | fail) <;> (try simp only [Act.put, List.setIfInBounds_toArray, List.set_cons_zero, List.set_cons_succ]))
    exact bodyPost_ret (ret_3 Try.stDoc rfl rfl rfl rfl f4 rfl) rfl (Keep.intro ⟨rfl, hX⟩)
  · clear hc
    go_wp2_with ((first
      | ((with_reducible refine at_box ?_); refine w_box _ [vk, vw] rfl rfl rfl rfl ?_; intro g2 w1 hg2 hX f2)
      | ((with_reducible refine at_box ?_); refine w_box _ (bRow b u) rfl rfl rfl rfl ?_; intro g3 w2 hg3 hx2 f3; replace f2 := f2.ext hx2; replace hX := hX.trans hx2; clear hx2)
      | ((with_reducible refine at_alloc ?_); refine w_alloc Try.stDoc rfl rfl ?_; intro g4 w2 hg4 hx2 f4; have hg24 := hide_ (show g2 ≠ g4 from fun e => by have := f2.lt; omega); replace f2 := f2.ext hx2; replace f3 := f3.ext hx2; replace hg4 := Nat.le_trans hX.size hg4; replace hX := hX.trans hx2; clear hx2)
      | (go_at_call 46; have _t := f2; refine (refBName_any (b := b) (hu.out.ext TxR.stays hX) hraw.out.parent).mono ?_; rintro e w4 ⟨rfl, hx⟩; rw [hnm'.out]; replace f2 := f2.ext hx; replace f3 := f3.ext hx; replace f4 := f4.ext hx; replace hX := hX.trans hx; clear hx)
      | (go_at_call 34; refine (refGet_any (vw := vw) (n := nm) (hK.out.ext BlkR.stays hX)).mono ?_; rintro e w4 ⟨u12, rfl, hu12, hr12, hx⟩; rw [hq'.out]; have hone12 := blk_one (a := (getOr K nm).slot) (b := (getOr K nm).miner) (c := (getOr K nm).var) (d := (getOr K nm).parent) hu12.one'; clear hr12 hu12; replace f2 := f2.ext hx; replace f3 := f3.ext hx; replace f4 := f4.ext hx; replace hX := hX.trans hx; clear hx)
      | ((with_reducible refine at_alloc ?_); refine w_alloc Try.stBlk rfl rfl ?_; intro g8 w2 hg8 hx f8)
      | ((with_reducible refine at_store ?_); refine w_astore Try.stBlk _ _ (us := bRow (getOr K nm) u12) rfl rfl rfl rfl rfl f8 rfl rfl hone12 ?_; intro w3 hm3 f9; replace hx := hm3.after hx (fun i hi => by subst hi; exact hg8); clear f9 hm3 f8 hg8 hone12; replace f2 := f2.ext hx; replace f3 := f3.ext hx; replace f4 := f4.ext hx; replace hX := hX.trans hx; clear hx)
      | ((with_reducible refine at_load ?_); (try refine w_yes _ _ _ rfl rfl rfl ?_); refine w_aload Try.stDoc _ rfl rfl rfl f2 rfl ?_)
      | ((with_reducible refine at_load ?_); (try refine w_yes _ _ _ rfl rfl rfl ?_); refine w_aload Try.stBlk _ rfl rfl rfl f3 rfl ?_)
      | ((with_reducible refine at_store ?_); refine w_astore Try.stDoc _ _ (us := [vk, vw]) rfl rfl rfl rfl rfl f4 rfl rfl hone ?_; intro w3 hm3 f9; replace f4 : Fs w3 g4 [vk, vw] := f9; replace hX := hm3.after hX (fun i hi => by subst hi; exact hg4); clear hm3 f9)
      | fail) <;> (try simp only [Act.put, List.setIfInBounds_toArray, List.set_cons_zero, List.set_cons_succ]))
    exact bodyPost_ret (ret_3 Try.stDoc rfl rfl rfl rfl f4 rfl) rfl (Keep.intro ⟨rfl, hX⟩)

set_option maxRecDepth 100000 in
set_option maxHeartbeats 1600000 in
theorem refAdd_c3 {w : World} {vk vw u : Value} {K V : List BlkD} {b : BlkD} (hK0 : Recs 5 BlkR w vk K) (hV0 : Recs 5 BlkR w vw V) (hV16 : V.length ≤ 16) (hu0 : Recs 2 TxR w u b.txs) (hraw0 : b.Raw) (hc : ¬ (b.name = 0 ∨ TrS.has K b.name = true ∨ TrS.has V b.name = true)) (hrd : TrS.ready K b = true) (hfull : 400 ≤ K.length) :
    Calls Try.prog 45 #[.agg #[vk, vw], .agg (bRow b u).toArray] w fun e w' => e = .returned (.tuple #[.agg #[vk, vw], .slice none 0 0, .bool false]) ∧ Ext w w' := by
  refine calls_keep ?_
  have hone := two_one hK0.one' hV0.one'
  have hK := hide_ hK0
  have hV := hide_ hV0
  have hu := hide_ hu0
  have hraw := hide_ hraw0
  obtain ⟨nm, hnm⟩ : ∃ n, b.name = n := ⟨_, rfl⟩
  rw [hnm] at hc
  have c1 : (nm == 0) = false := by simpa using fun e => hc (.inl e)
  have hq : TrS.has K nm = false := by simpa using fun e => hc (.inr (.inl e))
  have hr : decide (nm ∈ V.map BlkD.name) = false := by rw [in_has]; simpa using fun e => hc (.inr (.inr e))
  have hnm' := hide_ hnm
  have hq' := hide_ hq
  have hr' := hide_ hr
  have hrd' := hide_ hrd
  clear hK0 hV0 hu0 hraw0 hnm hq hr hrd hc
  go_enter Try.func45, Try.ntmps45
  go_wp2_with ((first
    | ((with_reducible refine at_box ?_); refine w_box _ [vk, vw] rfl rfl rfl rfl ?_; intro g2 w1 hg2 hX f2)
    | ((with_reducible refine at_box ?_); refine w_box _ (bRow b u) rfl rfl rfl rfl ?_; intro g3 w2 hg3 hx2 f3; replace f2 := f2.ext hx2; replace hX := hX.trans hx2; clear hx2)
    | ((with_reducible refine at_alloc ?_); refine w_alloc Try.stDoc rfl rfl ?_; intro g4 w2 hg4 hx2 f4; have hg24 := hide_ (show g2 ≠ g4 from fun e => by have := f2.lt; omega); replace f2 := f2.ext hx2; replace f3 := f3.ext hx2; replace hg4 := Nat.le_trans hX.size hg4; replace hX := hX.trans hx2; clear hx2)
    | (go_at_call 46; have _t := f2; refine (refBName_any (b := b) (hu.out.ext TxR.stays hX) hraw.out.parent).mono ?_; rintro e w4 ⟨rfl, hx⟩; rw [hnm'.out]; replace f2 := f2.ext hx; replace f3 := f3.ext hx; replace f4 := f4.ext hx; replace hX := hX.trans hx; clear hx)
    | (go_at_call 34; refine (refGet_any (vw := vw) (n := nm) (hK.out.ext BlkR.stays hX)).mono ?_; rintro e w4 ⟨u12, rfl, hu12, hr12, hx⟩; rw [hq'.out]; have hone12 := blk_one (a := (getOr K nm).slot) (b := (getOr K nm).miner) (c := (getOr K nm).var) (d := (getOr K nm).parent) hu12.one'; clear hr12 hu12; replace f2 := f2.ext hx; replace f3 := f3.ext hx; replace f4 := f4.ext hx; replace hX := hX.trans hx; clear hx)
    | ((with_reducible refine at_alloc ?_); refine w_alloc Try.stBlk rfl rfl ?_; intro g8 w2 hg8 hx f8)
    | ((with_reducible refine at_store ?_); refine w_astore Try.stBlk _ _ (us := bRow (getOr K nm) u12) rfl rfl rfl rfl rfl f8 rfl rfl hone12 ?_; intro w3 hm3 f9; replace hx := hm3.after hx (fun i hi => by subst hi; exact hg8); clear f9 hm3 f8 hg8 hone12; replace f2 := f2.ext hx; replace f3 := f3.ext hx; replace f4 := f4.ext hx; replace hX := hX.trans hx; clear hx)
    | (go_at_call 61; refine (refWaiting_any (vk := vk) (hV.out.ext BlkR.stays hX) hV16).mono ?_; rintro e w4 ⟨v34, rfl, o34, hx⟩; replace o34 := o34.ints; replace f2 := f2.ext hx; replace f3 := f3.ext hx; replace f4 := f4.ext hx; replace hX := hX.trans hx; clear hx)
    | (go_at_call 60; refine (refIn_any (n := nm) o34).mono ?_; rintro e w4 ⟨rfl, hx⟩; rw [hr'.out]; clear o34; replace f2 := f2.ext hx; replace f3 := f3.ext hx; replace f4 := f4.ext hx; replace hX := hX.trans hx; clear hx)
    | (go_at_call 62; refine (refReady_any (b := b) (hK.out.ext BlkR.stays hX) hu.out.one').mono ?_; rintro e w4 ⟨rfl, hx⟩; rw [hrd'.out]; replace f2 := f2.ext hx; replace f3 := f3.ext hx; replace f4 := f4.ext hx; replace hX := hX.trans hx; clear hx)
    | (go_at_call 63; refine (refGrow_no (b := b) (u := u) (hK.out.ext BlkR.stays hX) hV.out.one' hfull).mono ?_; rintro e w4 ⟨rfl, hx⟩; replace f2 := f2.ext hx; replace f3 := f3.ext hx; replace f4 := f4.ext hx; replace hX := hX.trans hx; clear hx)
    | ((with_reducible refine at_load ?_); (try refine w_yes _ _ _ rfl rfl rfl ?_); refine w_aload Try.stDoc _ rfl rfl rfl f2 rfl ?_)
    | ((with_reducible refine at_load ?_); (try refine w_yes _ _ _ rfl rfl rfl ?_); refine w_aload Try.stBlk _ rfl rfl rfl f3 rfl ?_)
    | ((with_reducible refine at_store ?_); refine w_astore Try.stDoc _ _ (us := [vk, vw]) rfl rfl rfl rfl rfl f2 rfl rfl hone ?_; intro w3 hm3 f9; replace f2 : Fs w3 g2 [vk, vw] := f9; replace f4 := f4.mod hm3 (fun e => hg24.out e.symm); replace hX := hm3.after hX (fun i hi => by subst hi; exact hg2); clear hm3 f9)
    | ((with_reducible refine at_store ?_); refine w_astore Try.stDoc _ _ (us := [vk, vw]) rfl rfl rfl rfl rfl f4 rfl rfl hone ?_; intro w3 hm3 f9; replace f4 : Fs w3 g4 [vk, vw] := f9; replace hX := hm3.after hX (fun i hi => by subst hi; exact hg4); clear hm3 f9)
    | fail) <;> (try simp only [Act.put, List.setIfInBounds_toArray, List.set_cons_zero, List.set_cons_succ]))
  exact bodyPost_ret (ret_3 Try.stDoc rfl rfl rfl rfl f4 rfl) rfl (Keep.intro ⟨rfl, hX⟩)

/-- v[j:], where it lies. -/
theorem w_sfromS {P : Program} {ops : Array Oper} {rest : List Oper} {o : Oper} {a : Act} {Q : Exit → Act → World → Prop} {w : World} {t e : TypeId} {n : Nat} {v : Value} {rows : List (List Value)} (E : ElS P t e n) (x y : Operand) (j : Nat) (hgd : o.guard = none) (ho : o.op = .slice t x (some y) none none) (hv : a.eval x = v) (hy : a.eval y = .int .i64 (j : Int)) (h : SlS w v n rows) (hj : j ≤ rows.length)
    (k : ∀ v', SlS w v' n (rows.drop j) → v'.ownBlock = v.ownBlock → wpList P ops Q rest (a.put o.dst v') w) : wpList P ops Q (o :: rest) a w := by
  obtain ⟨A, c, rfl, h1, h2, h3⟩ := h
  refine wpList_runs hgd (runs_sfrom E x y ho hv hy hj rfl) (k _ ⟨_, _, by rw [List.length_drop], by rw [List.length_drop]; omega, by omega, fun i row hi => ?_⟩ ?_)
  · rw [List.getElem?_drop] at hi
    obtain ⟨g1, ad, rfl, g2⟩ := h3 _ row hi
    have hjr := (List.getElem?_eq_some_iff.1 hi).1
    rw [if_neg (by omega)]
    refine ⟨g1, _, rfl, ?_⟩
    rw [add_add', show j * n + i * n = (j + i) * n from (Nat.add_mul ..).symm]
    exact g2
  · cases A with
    | none => split <;> rfl
    | some ad =>
      split
      · rfl
      · show some (ad.add (j * n)).block = some ad.block
        rw [blk_add]
theorem RowsB.drop {W0 : WB} {rows : List (List Value)} {l : List BlkD} (h : RowsB W0 rows l) (j : Nat) : RowsB W0 (rows.drop j) (l.drop j) :=
  ⟨by rw [List.length_drop, List.length_drop, h.len], fun k row d hk hd => by rw [List.getElem?_drop] at hk hd; exact h.at_ _ row d hk hd⟩

set_option maxRecDepth 100000 in
set_option maxHeartbeats 3200000 in
theorem refAdd_c2 {Wr : WB} {w : World} {vk vw u : Value} {K V : List BlkD} {b : BlkD} {rows : List (List Value)} (er : Ext Wr.w w) (hK0 : Recs 5 BlkR w vk K) (hs0 : SlS w vw 5 rows) (hB0 : RowsB Wr rows V) (hV16 : V.length ≤ 16) (hur : Wr.Has u b) (hraw0 : b.Raw) (hc : ¬ (b.name = 0 ∨ TrS.has K b.name = true ∨ TrS.has V b.name = true)) (hrd : TrS.ready K b = false) :
    Calls Try.prog 45 #[.agg #[vk, vw], .agg (bRow b u).toArray] w fun e w' => ∃ vw' rows', e = .returned (.tuple #[.agg #[vk, vw'], .slice none 0 0, .bool true]) ∧ SlS w' vw' 5 rows' ∧ RowsB Wr rows' (pushQ V b) ∧ (∀ k, vw'.ownBlock = some k → w.heap.size ≤ k) ∧ Ext w w' := by
  refine calls_keep ?_
  have hV0 := hB0.recs hs0 er
  have hu0 := hur.1.ext TxR.stays er
  have hk1 := hK0.one'
  have hK := hide_ hK0
  have hV := hide_ hV0
  have hu := hide_ hu0
  have hraw := hide_ hraw0
  have hrl0 := hB0.len
  have hrr0 := hB0.at_
  have hs := hide_ hs0
  have hrone := hide_ hB0.one
  have hBn := hide_ (show RowsB Wr (rows ++ [bRow b u]) (V ++ [b]) from ⟨by simp [hrl0], rows_snoc hrl0 hrr0 hur hraw0⟩)
  have honeb := hide_ (blk_one (a := b.slot) (b := b.miner) (c := b.var) (d := b.parent) hu0.one')
  have hb1 := hide_ (show (([] : List (List Value)).length + rows.length) * 56 ≤ 140737488355328 by simp; omega)
  have hb2 := hide_ (show (rows.length + [bRow b u].length) * 56 ≤ 140737488355328 by simp; omega)
  obtain ⟨n1, hn1⟩ : ∃ n, (V ++ [b]).length = n := ⟨_, rfl⟩
  have hn1' := hide_ hn1
  have hr1 := hide_ (show 1 ≤ (rows ++ [bRow b u]).length by simp)
  obtain ⟨nm, hnm⟩ : ∃ n, b.name = n := ⟨_, rfl⟩
  rw [hnm] at hc
  have c1 : (nm == 0) = false := by simpa using fun e => hc (.inl e)
  have hq : TrS.has K nm = false := by simpa using fun e => hc (.inr (.inl e))
  have hr : decide (nm ∈ V.map BlkD.name) = false := by rw [in_has]; simpa using fun e => hc (.inr (.inr e))
  have hnm' := hide_ hnm
  have hq' := hide_ hq
  have hr' := hide_ hr
  have hrd' := hide_ hrd
  have hpq : ∀ (P : List BlkD → Prop), (16 < n1 → P ((V ++ [b]).drop 1)) → (¬ 16 < n1 → P (V ++ [b])) → P (pushQ V b) := by
    intro P h1 h2
    unfold pushQ
    rw [hn1]
    split
    · rename_i h; exact h1 h
    · rename_i h; exact h2 h
  have hpq' := hide_ hpq
  clear hK0 hV0 hu0 hur hraw0 hnm hq hr hrd hc hs0 hrl0 hrr0 hB0 hn1 hpq
  have tokA : True := trivial
  go_enter Try.func45, Try.ntmps45
  by_cases hbig : 16 < n1
  · have t1 : decide ((16 : Int) < (n1 : Int)) = true := decide_eq_true (by omega)
    go_wp2_with ((first
      | ((with_reducible refine at_box ?_); refine w_box _ [vk, vw] rfl rfl rfl rfl ?_; intro g2 w1 hg2 hX f2)
      | ((with_reducible refine at_box ?_); refine w_box _ (bRow b u) rfl rfl rfl rfl ?_; intro g3 w2 hg3 hx2 f3; replace f2 := f2.ext hx2; replace hX := hX.trans hx2; clear hx2)
      | ((with_reducible refine at_alloc ?_); refine w_alloc Try.stDoc rfl rfl ?_; intro g4 w2 hg4 hx2 f4; have hg24 := hide_ (show g2 ≠ g4 from fun e => by have := f2.lt; omega); replace f2 := f2.ext hx2; replace f3 := f3.ext hx2; replace hg4 := Nat.le_trans hX.size hg4; replace hX := hX.trans hx2; clear hx2)
      | (go_at_call 46; have _t := f2; refine (refBName_any (b := b) (hu.out.ext TxR.stays hX) hraw.out.parent).mono ?_; rintro e w4 ⟨rfl, hx⟩; rw [hnm'.out]; replace f2 := f2.ext hx; replace f3 := f3.ext hx; replace f4 := f4.ext hx; replace hX := hX.trans hx; clear hx)
      | (go_at_call 34; refine (refGet_any (vw := vw) (n := nm) (hK.out.ext BlkR.stays hX)).mono ?_; rintro e w4 ⟨u12, rfl, hu12, hr12, hx⟩; rw [hq'.out]; have hone12 := blk_one (a := (getOr K nm).slot) (b := (getOr K nm).miner) (c := (getOr K nm).var) (d := (getOr K nm).parent) hu12.one'; clear hr12 hu12; replace f2 := f2.ext hx; replace f3 := f3.ext hx; replace f4 := f4.ext hx; replace hX := hX.trans hx; clear hx)
      | ((with_reducible refine at_alloc ?_); refine w_alloc Try.stBlk rfl rfl ?_; intro g8 w2 hg8 hx f8)
      | ((with_reducible refine at_store ?_); refine w_astore Try.stBlk _ _ (us := bRow (getOr K nm) u12) rfl rfl rfl rfl rfl f8 rfl rfl hone12 ?_; intro w3 hm3 f9; replace hx := hm3.after hx (fun i hi => by subst hi; exact hg8); clear f9 hm3 f8 hg8 hone12; replace f2 := f2.ext hx; replace f3 := f3.ext hx; replace f4 := f4.ext hx; replace hX := hX.trans hx; clear hx)
      | (go_at_call 61; refine (refWaiting_any (vk := vk) (hV.out.ext BlkR.stays hX) hV16).mono ?_; rintro e w4 ⟨v34, rfl, o34, hx⟩; replace o34 := o34.ints; replace f2 := f2.ext hx; replace f3 := f3.ext hx; replace f4 := f4.ext hx; replace hX := hX.trans hx; clear hx)
      | (go_at_call 60; refine (refIn_any (n := nm) o34).mono ?_; rintro e w4 ⟨rfl, hx⟩; rw [hr'.out]; clear o34; replace f2 := f2.ext hx; replace f3 := f3.ext hx; replace f4 := f4.ext hx; replace hX := hX.trans hx; clear hx)
      | (go_at_call 62; refine (refReady_any (b := b) (hK.out.ext BlkR.stays hX) hu.out.one').mono ?_; rintro e w4 ⟨rfl, hx⟩; rw [hrd'.out]; replace f2 := f2.ext hx; replace f3 := f3.ext hx; replace f4 := f4.ext hx; replace hX := hX.trans hx; clear hx)
      | ((with_reducible refine at_lit ?_); have _t := tokA; refine w_nnew Try.enBlk [] rfl rfl rfl (by simp) rfl (by omega) ?_; intro v43 w5 B hB1 hB2 hx r43; have hg2' := Nat.not_le.2 (Nat.lt_of_lt_of_le f2.lt hB1); have hg3' := Nat.not_le.2 (Nat.lt_of_lt_of_le f3.lt hB1); have hg4' := Nat.not_le.2 (Nat.lt_of_lt_of_le f4.lt hB1); have hBw := Nat.le_trans hX.size hB1; clear tokA hB1; replace f2 := f2.ext hx; replace f3 := f3.ext hx; replace f4 := f4.ext hx; replace hX := hX.trans hx; clear hx)
      | ((with_reducible refine at_bi ?_); refine w_napp0 Try.enBlk _ _ rfl rfl rfl rfl r43 (hs.out.ext hX) hrone.out hb1.out ?_; intro v46 w7 hm7 r46; replace hm7 := hm7.mono (G := fun k => B ≤ k) (fun k _ h => And.left h); replace f2 := f2.mod hm7 hg2'; replace f3 := f3.mod hm7 hg3'; replace f4 := f4.mod hm7 hg4'; replace hX := hm7.after hX (fun i hi => Nat.le_trans hBw hi); replace r46 : RowN (fun k => B ≤ k) w7 _ 5 v46 rows := r46.mono (fun k hk => Or.elim hk (fun h => And.left h) (fun h => Nat.le_trans hB2 (And.left h))); replace hB2 := Nat.le_trans hB2 hm7.size; clear hm7 r43)
      | ((with_reducible refine at_lit ?_); refine w_nnew Try.enBlk [bRow b u] rfl rfl rfl (by simp [bRow]) rfl (by simp) ?_; intro v49 w5 B2 hC1 hC2 hx r49; replace r46 := r46.ext hx; replace hB2 := Nat.le_trans hB2 hx.size; clear hC1 hC2; replace f2 := f2.ext hx; replace f3 := f3.ext hx; replace f4 := f4.ext hx; replace hX := hX.trans hx; clear hx)
      | ((with_reducible refine at_bi ?_); refine w_napp Try.enBlk _ _ rfl rfl rfl rfl r46 r49.slS (by simp) (fun y hy => by rw [List.mem_singleton.1 hy]; exact honeb.out) hb2.out ?_; intro v50 w9 hm9 r50; replace f2 := f2.mod hm9 hg2'; replace f4 := f4.mod hm9 hg4'; replace hX := hm9.after hX (fun i hi => Nat.le_trans hBw hi); replace r50 : RowN (fun k => B ≤ k) w9 _ 5 v50 (rows ++ [bRow b u]) := r50.mono (fun k hk => Or.elim hk (fun h => h) (fun h => Nat.le_trans hB2 (And.left h))); clear hm9 r46 r49 f3 hB2)
      | ((with_reducible refine at_bi ?_); refine w_rlen Try.enBlk.elS _ rfl rfl rfl (hBn.out.recs r50.slS (er.trans hX)) ?_; rw [hn1'.out])
      | ((with_reducible refine at_field ?_); have _t := f3; refine w_field Try.stDoc _ _ _ rfl rfl rfl (by omega) ?_)
      | ((with_reducible refine at_load ?_); (try refine w_yes _ _ _ rfl rfl rfl ?_); refine w_aload Try.stDoc _ rfl rfl rfl f2 rfl ?_)
      | ((with_reducible refine at_load ?_); refine w_fload _ rfl rfl rfl f2 rfl (agg_of (by kernel_rfl)) ?_)
      | ((with_reducible refine at_load ?_); (try refine w_yes _ _ _ rfl rfl rfl ?_); refine w_aload Try.stBlk _ rfl rfl rfl f3 rfl ?_)
      | ((with_reducible refine at_cut ?_); refine w_sfromS Try.enBlk.elS _ _ 1 rfl rfl rfl rfl r50.slS hr1.out ?_; intro v55 s55 e55; have n55 := (fun k (hk : v55.ownBlock = some k) => r50.inF k (e55 ▸ hk)); have c55 := slS_cell s55; have hone := two_one hk1 c55.2; clear r50 e55)
      | ((with_reducible refine at_field ?_); refine w_field Try.stDoc _ _ _ rfl rfl rfl (by omega) ?_)
      | ((with_reducible refine at_store ?_); refine w_fstore _ _ rfl rfl rfl rfl rfl f2 (by simp) c55.1 c55.2 (by kernel_rfl) ?_; intro w10 hm10 f10; replace f2 : Fs w10 g2 [vk, v55] := f10; replace s55 := s55.mod hm10 (fun k hk e => hg2' (e ▸ n55 k hk)); replace f4 := f4.mod hm10 (fun e => hg24.out e.symm); replace hX := hm10.after hX (fun i hi => by subst hi; exact hg2); clear hm10 f10)
      | ((with_reducible refine at_load ?_); (try refine w_yes _ _ _ rfl rfl rfl ?_); refine w_aload Try.stDoc _ rfl rfl rfl f2 rfl ?_)
      | ((with_reducible refine at_store ?_); refine w_astore Try.stDoc _ _ (us := [vk, v55]) rfl rfl rfl rfl rfl f4 rfl rfl hone ?_; intro w3 hm3 f9; replace f4 : Fs w3 g4 [vk, v55] := f9; replace s55 := s55.mod hm3 (fun k hk e => hg4' (e ▸ n55 k hk)); replace hX := hm3.after hX (fun i hi => by subst hi; exact hg4); clear hm3 f9)
      | fail) <;> (try simp only [Act.put, List.setIfInBounds_toArray, List.set_cons_zero, List.set_cons_succ]))
    exact bodyPost_ret (ret_3 Try.stDoc rfl rfl rfl rfl f4 rfl) rfl (Keep.intro ⟨v55, _, rfl, s55, hpq'.out (fun l => RowsB Wr _ l) (fun _ => hBn.out.drop 1) (fun h => absurd hbig h), fun k hk => Nat.le_trans hBw (n55 k hk), hX⟩)
  · have t1 : decide ((16 : Int) < (n1 : Int)) = false := decide_eq_false (by omega)
    go_wp2_with ((first
      | ((with_reducible refine at_box ?_); refine w_box _ [vk, vw] rfl rfl rfl rfl ?_; intro g2 w1 hg2 hX f2)
      | ((with_reducible refine at_box ?_); refine w_box _ (bRow b u) rfl rfl rfl rfl ?_; intro g3 w2 hg3 hx2 f3; replace f2 := f2.ext hx2; replace hX := hX.trans hx2; clear hx2)
      | ((with_reducible refine at_alloc ?_); refine w_alloc Try.stDoc rfl rfl ?_; intro g4 w2 hg4 hx2 f4; have hg24 := hide_ (show g2 ≠ g4 from fun e => by have := f2.lt; omega); replace f2 := f2.ext hx2; replace f3 := f3.ext hx2; replace hg4 := Nat.le_trans hX.size hg4; replace hX := hX.trans hx2; clear hx2)
      | (go_at_call 46; have _t := f2; refine (refBName_any (b := b) (hu.out.ext TxR.stays hX) hraw.out.parent).mono ?_; rintro e w4 ⟨rfl, hx⟩; rw [hnm'.out]; replace f2 := f2.ext hx; replace f3 := f3.ext hx; replace f4 := f4.ext hx; replace hX := hX.trans hx; clear hx)
      | (go_at_call 34; refine (refGet_any (vw := vw) (n := nm) (hK.out.ext BlkR.stays hX)).mono ?_; rintro e w4 ⟨u12, rfl, hu12, hr12, hx⟩; rw [hq'.out]; have hone12 := blk_one (a := (getOr K nm).slot) (b := (getOr K nm).miner) (c := (getOr K nm).var) (d := (getOr K nm).parent) hu12.one'; clear hr12 hu12; replace f2 := f2.ext hx; replace f3 := f3.ext hx; replace f4 := f4.ext hx; replace hX := hX.trans hx; clear hx)
      | ((with_reducible refine at_alloc ?_); refine w_alloc Try.stBlk rfl rfl ?_; intro g8 w2 hg8 hx f8)
      | ((with_reducible refine at_store ?_); refine w_astore Try.stBlk _ _ (us := bRow (getOr K nm) u12) rfl rfl rfl rfl rfl f8 rfl rfl hone12 ?_; intro w3 hm3 f9; replace hx := hm3.after hx (fun i hi => by subst hi; exact hg8); clear f9 hm3 f8 hg8 hone12; replace f2 := f2.ext hx; replace f3 := f3.ext hx; replace f4 := f4.ext hx; replace hX := hX.trans hx; clear hx)
      | (go_at_call 61; refine (refWaiting_any (vk := vk) (hV.out.ext BlkR.stays hX) hV16).mono ?_; rintro e w4 ⟨v34, rfl, o34, hx⟩; replace o34 := o34.ints; replace f2 := f2.ext hx; replace f3 := f3.ext hx; replace f4 := f4.ext hx; replace hX := hX.trans hx; clear hx)
      | (go_at_call 60; refine (refIn_any (n := nm) o34).mono ?_; rintro e w4 ⟨rfl, hx⟩; rw [hr'.out]; clear o34; replace f2 := f2.ext hx; replace f3 := f3.ext hx; replace f4 := f4.ext hx; replace hX := hX.trans hx; clear hx)
      | (go_at_call 62; refine (refReady_any (b := b) (hK.out.ext BlkR.stays hX) hu.out.one').mono ?_; rintro e w4 ⟨rfl, hx⟩; rw [hrd'.out]; replace f2 := f2.ext hx; replace f3 := f3.ext hx; replace f4 := f4.ext hx; replace hX := hX.trans hx; clear hx)
      | ((with_reducible refine at_lit ?_); have _t := tokA; refine w_nnew Try.enBlk [] rfl rfl rfl (by simp) rfl (by omega) ?_; intro v43 w5 B hB1 hB2 hx r43; have hg2' := Nat.not_le.2 (Nat.lt_of_lt_of_le f2.lt hB1); have hg3' := Nat.not_le.2 (Nat.lt_of_lt_of_le f3.lt hB1); have hg4' := Nat.not_le.2 (Nat.lt_of_lt_of_le f4.lt hB1); have hBw := Nat.le_trans hX.size hB1; clear tokA hB1; replace f2 := f2.ext hx; replace f3 := f3.ext hx; replace f4 := f4.ext hx; replace hX := hX.trans hx; clear hx)
      | ((with_reducible refine at_bi ?_); refine w_napp0 Try.enBlk _ _ rfl rfl rfl rfl r43 (hs.out.ext hX) hrone.out hb1.out ?_; intro v46 w7 hm7 r46; replace hm7 := hm7.mono (G := fun k => B ≤ k) (fun k _ h => And.left h); replace f2 := f2.mod hm7 hg2'; replace f3 := f3.mod hm7 hg3'; replace f4 := f4.mod hm7 hg4'; replace hX := hm7.after hX (fun i hi => Nat.le_trans hBw hi); replace r46 : RowN (fun k => B ≤ k) w7 _ 5 v46 rows := r46.mono (fun k hk => Or.elim hk (fun h => And.left h) (fun h => Nat.le_trans hB2 (And.left h))); replace hB2 := Nat.le_trans hB2 hm7.size; clear hm7 r43)
      | ((with_reducible refine at_lit ?_); refine w_nnew Try.enBlk [bRow b u] rfl rfl rfl (by simp [bRow]) rfl (by simp) ?_; intro v49 w5 B2 hC1 hC2 hx r49; replace r46 := r46.ext hx; replace hB2 := Nat.le_trans hB2 hx.size; clear hC1 hC2; replace f2 := f2.ext hx; replace f3 := f3.ext hx; replace f4 := f4.ext hx; replace hX := hX.trans hx; clear hx)
      | ((with_reducible refine at_bi ?_); refine w_napp Try.enBlk _ _ rfl rfl rfl rfl r46 r49.slS (by simp) (fun y hy => by rw [List.mem_singleton.1 hy]; exact honeb.out) hb2.out ?_; intro v50 w9 hm9 r50; replace f2 := f2.mod hm9 hg2'; replace f4 := f4.mod hm9 hg4'; replace hX := hm9.after hX (fun i hi => Nat.le_trans hBw hi); replace r50 : RowN (fun k => B ≤ k) w9 _ 5 v50 (rows ++ [bRow b u]) := r50.mono (fun k hk => Or.elim hk (fun h => h) (fun h => Nat.le_trans hB2 (And.left h))); clear hm9 r46 r49 f3 hB2)
      | ((with_reducible refine at_bi ?_); refine w_rlen Try.enBlk.elS _ rfl rfl rfl (hBn.out.recs r50.slS (er.trans hX)) ?_; rw [hn1'.out])
      | ((with_reducible refine at_field ?_); have _t := f3; refine w_field Try.stDoc _ _ _ rfl rfl rfl (by omega) ?_)
      | ((with_reducible refine at_load ?_); (try refine w_yes _ _ _ rfl rfl rfl ?_); refine w_aload Try.stDoc _ rfl rfl rfl f2 rfl ?_)
      | ((with_reducible refine at_load ?_); refine w_fload _ rfl rfl rfl f2 rfl (agg_of (by kernel_rfl)) ?_)
      | ((with_reducible refine at_load ?_); (try refine w_yes _ _ _ rfl rfl rfl ?_); refine w_aload Try.stBlk _ rfl rfl rfl f3 rfl ?_)
      | ((with_reducible refine at_field ?_); have s55 := r50.slS; have n55 := r50.inF; have c55 := slS_cell s55; have hone := two_one hk1 c55.2; refine w_field Try.stDoc _ _ _ rfl rfl rfl (by omega) ?_; clear r50)
      | ((with_reducible refine at_store ?_); refine w_fstore _ _ rfl rfl rfl rfl rfl f2 (by simp) c55.1 c55.2 (by kernel_rfl) ?_; intro w10 hm10 f10; replace f2 : Fs w10 g2 [vk, v50] := f10; replace s55 := s55.mod hm10 (fun k hk e => hg2' (e ▸ n55 k hk)); replace f4 := f4.mod hm10 (fun e => hg24.out e.symm); replace hX := hm10.after hX (fun i hi => by subst hi; exact hg2); clear hm10 f10)
      | ((with_reducible refine at_load ?_); (try refine w_yes _ _ _ rfl rfl rfl ?_); refine w_aload Try.stDoc _ rfl rfl rfl f2 rfl ?_)
      | ((with_reducible refine at_store ?_); refine w_astore Try.stDoc _ _ (us := [vk, v50]) rfl rfl rfl rfl rfl f4 rfl rfl hone ?_; intro w3 hm3 f9; replace f4 : Fs w3 g4 [vk, v50] := f9; replace s55 := s55.mod hm3 (fun k hk e => hg4' (e ▸ n55 k hk)); replace hX := hm3.after hX (fun i hi => by subst hi; exact hg4); clear hm3 f9)
      | fail) <;> (try simp only [Act.put, List.setIfInBounds_toArray, List.set_cons_zero, List.set_cons_succ]))
    exact bodyPost_ret (ret_3 Try.stDoc rfl rfl rfl rfl f4 rfl) rfl (Keep.intro ⟨v50, _, rfl, s55, hpq'.out (fun l => RowsB Wr _ l) (fun h => absurd h hbig) (fun _ => hBn.out), fun k hk => Nat.le_trans hBw (n55 k hk), hX⟩)
end Go.Proofs.Ytdoeoncmhaihbaa
namespace Go.Proofs.Ytdoeoncmhaihbaa
set_option maxRecDepth 100000
open Go.RowKit Go.ChangeShapes Go.WideShapes Go.ChangeAt

section
variable {Wr : WB} {W0 w w' : World} {S : Nat → Prop} {g2 g4 : Nat} {vk vw v12 v14 : Value} {K V R : List BlkD} {o : List Int}
theorem St8.init {vk1 : Value} {rows1 : List (List Value)} {K1 : List BlkD} (f2 : Fs w g2 [vk1, vw]) (f4 : Fs w g4 zero2) (s1 : SlS w vk1 5 rows1) (b1 : RowsB Wr rows1 K1) (n1 : ∀ k, vk1.ownBlock = some k → W0.heap.size ≤ k ∧ k ≠ g2 ∧ k ≠ g4) (hV : KP Wr S W0 vw V) (er : Ext Wr.w W0) (hX : Ext W0 w) (hg2 : W0.heap.size ≤ g2) (hg4 : W0.heap.size ≤ g4) (h24 : g2 ≠ g4) (hx : Ext w w') (o12 : OwnI w.heap.size w' v12 o) : St8 Wr W0 S w' g2 g4 vk1 vw v12 (.slice none 0 0) K1 V [] o := by
  have l2 := f2.lt; have l4 := f4.lt; have hs := hX.size
  have key : ∀ k, v12.ownBlock = some k → w.heap.size ≤ k := fun k hk => (own_block_lt (g := k) o12 hk).1
  have hS1 : KP Wr (fun k => (S k ∨ W0.heap.size ≤ k) ∧ k ≠ g2 ∧ k ≠ g4) w vk1 K1 := KP.new s1 b1 fun k hk => ⟨.inr (n1 k hk).1, (n1 k hk).2.1, (n1 k hk).2.2⟩
  have hS2 : KP Wr (fun k => (S k ∨ W0.heap.size ≤ k) ∧ k ≠ g2 ∧ k ≠ g4) w vw V := (hV.mono fun k hk hs' => ⟨.inl hs', by omega, by omega⟩).ext hX
  have hse : ∀ k, k < w.heap.size → ((S k ∨ W0.heap.size ≤ k) ∧ k ≠ g2 ∧ k ≠ g4) → (S k ∨ W0.heap.size ≤ k) ∧ k ≠ g2 ∧ k ≠ g4 ∧ v12.ownBlock ≠ some k ∧ (Value.slice none 0 0).ownBlock ≠ some k := fun k hk ⟨z, a, b⟩ => ⟨z, a, b, fun e => by have := key k e; omega, by simp [Value.ownBlock]⟩
  exact ⟨f2.ext hx, f4.ext hx, (hS1.mono hse).ext hx, (hS2.mono hse).ext hx, own_mono o12 hs, fun k hk => by have := key k hk; exact ⟨by omega, by omega, by simp [Value.ownBlock]⟩, ⟨[], RowN.nil _ _ _, rfl, by simp⟩, fun k hk => by simp [Value.ownBlock] at hk, hX.trans hx, er, hg2, hg4, h24⟩
theorem St8.qlen (h : St8 Wr W0 S w g2 g4 vk vw v12 v14 K V R o) : qlen w g2 = V.length := by
  obtain ⟨rows, ⟨A, c, rfl, _⟩, hl, _⟩ := h.kv
  unfold Go.Proofs.Ytdoeoncmhaihbaa.qlen
  rw [h.f2.cell (i := 1) rfl]
  exact hl.len
theorem St8.done (h : St8 Wr W0 S w g2 g4 vk vw v12 v14 K V R o) (hm : Mod (fun k => k = g4) w w') : KP Wr (fun k => S k ∨ W0.heap.size ≤ k) w' vk K ∧ KP Wr (fun k => S k ∨ W0.heap.size ≤ k) w' vw V ∧ OwnI W0.heap.size w' v12 o ∧ Ext W0 w' := by
  have hX : Ext W0 w' := hm.after h.ext fun i hi => by subst hi; exact h.hg4
  have h1 := h.kk.swap (S' := fun k => S k ∨ W0.heap.size ≤ k) hm fun k _ hs => ⟨hs.2.2.1, hs.1⟩
  have h2 := h.kv.swap (S' := fun k => S k ∨ W0.heap.size ≤ k) hm fun k _ hs => ⟨hs.2.2.1, hs.1⟩
  have h3 : OwnI W0.heap.size w' v12 o := own_mod h.o12 hm fun k hk => (h.n12 k hk).2.1
  exact ⟨h1, h2, h3, hX⟩
theorem St8.grown {vk3 : Value} {rows3 : List (List Value)} {K3 : List BlkD} (h : St8 Wr W0 S w g2 g4 vk vw v12 v14 K V R o) (s3 : SlS w' vk3 5 rows3) (b3 : RowsB Wr rows3 K3) (n3 : ∀ k, vk3.ownBlock = some k → w.heap.size ≤ k) : KP Wr (fun k => (S k ∨ W0.heap.size ≤ k) ∧ k ≠ g2 ∧ k ≠ g4 ∧ v12.ownBlock ≠ some k ∧ v14.ownBlock ≠ some k) w' vk3 K3 := by
  have l2 := h.f2.lt; have l4 := h.f4.lt; have hs := h.ext.size
  exact KP.new s3 b3 fun k hk => by
    have h1 := n3 k hk
    exact ⟨.inr (by omega), by omega, by omega, fun e => by have := (own_block_lt (g := k) h.o12 e).2; omega, fun e => by have := h.lt14 e; omega⟩
theorem St8.two (h : St8 Wr W0 S w g2 g4 vk vw v12 v14 K V R o) : ∀ u ∈ [vk, vw], u.oneCell' = true := two_one h.kk.one h.kv.one
end
/-- &l[i] of blocks that stay. -/
theorem w_kidx {P : Program} {ops : Array Oper} {rest : List Oper} {o : Oper} {a : Act} {Q : Exit → Act → World → Prop} {W0 : WB} {w : World} {S : Nat → Prop} {t e : TypeId} {v : Value} {l : List BlkD} (E : ElS P t e 5) (x y : Operand) (i : Nat) (hgd : o.guard = none) (ho : o.op = .indexAddr t x y) (hv : a.eval x = v) (hy : a.eval y = .int .i64 i)
    (h : KP W0 S w v l) {d : BlkD} (hd : l[i]? = some d) (k : ∀ p u, RowAt w p (bRow d u) → W0.Has u d → d.Raw → wpList P ops Q rest (a.put o.dst (.pointer (some p))) w) : wpList P ops Q (o :: rest) a w := by
  obtain ⟨rows, h1, h2, _⟩ := h
  have hi := (List.getElem?_eq_some_iff.1 hd).1
  have e : l[i] = d := (List.getElem?_eq_some_iff.1 hd).2
  refine w_ridx (R := fun _ row d => BlkB W0 row d) E x y i hgd ho hv hy ⟨rows, h1, h2.len, h2.at_⟩ hi ?_
  rintro pa row hrow _ ⟨⟨u, rfl, hu⟩, hraw⟩
  rw [e] at hrow hu hraw
  exact k pa u hrow hu hraw

set_option maxRecDepth 100000 in
set_option maxHeartbeats 6400000 in
theorem refAdd_c4 {Wr : WB} {w : World} {S : Nat → Prop} {vk vw u : Value} {K V : List BlkD} {b : BlkD} (er : Ext Wr.w w) (hKP : KP Wr S w vk K) (hVP : KP Wr S w vw V) (hV16 : V.length ≤ 16) (hur0 : Wr.Has u b) (hraw0 : b.Raw) (hc : ¬ (b.name = 0 ∨ TrS.has K b.name = true ∨ TrS.has V b.name = true)) (hrd : TrS.ready K b = true) (hk400 : K.length < 400) :
    Calls Try.prog 45 #[.agg #[vk, vw], .agg (bRow b u).toArray] w fun e w' => ∃ vk' vw' v', e = .returned (.tuple #[.agg #[vk', vw'], v', .bool true]) ∧ KP Wr (fun k => S k ∨ w.heap.size ≤ k) w' vk' (TrS.drain V.length (K ++ [b]) V [b.name]).1 ∧ KP Wr (fun k => S k ∨ w.heap.size ≤ k) w' vw' (TrS.drain V.length (K ++ [b]) V [b.name]).2.1 ∧ OwnI w.heap.size w' v' (TrS.drain V.length (K ++ [b]) V [b.name]).2.2 ∧ Ext w w' := by
  refine calls_keep ?_
  have hK0 := hKP.recs er
  have hV0 := hVP.recs er
  have hu0 := hur0.1.ext TxR.stays er
  have hur := hide_ hur0
  replace hVP := hide_ hVP
  have hVone := hV0.one'
  have hK := hide_ hK0
  have hV := hide_ hV0
  have hu := hide_ hu0
  have hraw := hide_ hraw0
  obtain ⟨rows, hs0, hB0, _⟩ := hKP
  have hB := hide_ hB0
  have hs := hide_ hs0
  obtain ⟨nm, hnm⟩ : ∃ n, b.name = n := ⟨_, rfl⟩
  rw [hnm] at hc ⊢
  have c1 : (nm == 0) = false := by simpa using fun e => hc (.inl e)
  have hq : TrS.has K nm = false := by simpa using fun e => hc (.inr (.inl e))
  have hr : decide (nm ∈ V.map BlkD.name) = false := by rw [in_has]; simpa using fun e => hc (.inr (.inr e))
  have hnm' := hide_ hnm
  have hq' := hide_ hq
  have hr' := hide_ hr
  have hrd' := hide_ hrd
  obtain ⟨D, hD⟩ : ∃ D, TrS.drain V.length (K ++ [b]) V [nm] = D := ⟨_, rfl⟩
  rw [hD]
  have hD' := hide_ hD
  have hK1 := hide_ (show (K ++ [b]).length ≤ 400 by simp; omega)
  clear hu0 hur0 hK0 hraw0 hnm hq hr hrd hc hs0 hB0 hV0 hD
  go_enter Try.func45, Try.ntmps45
  go_wp2_with ((first
    | ((with_reducible refine at_box ?_); refine w_box _ [vk, vw] rfl rfl rfl rfl ?_; intro g2 w1 hg2 hX f2)
    | ((with_reducible refine at_box ?_); refine w_box _ (bRow b u) rfl rfl rfl rfl ?_; intro g3 w2 hg3 hx2 f3; replace f2 := f2.ext hx2; replace hX := hX.trans hx2; clear hx2)
    | ((with_reducible refine at_alloc ?_); refine w_alloc Try.stDoc rfl rfl ?_; intro g4 w2 hg4 hx2 f4; have hg24 := hide_ (show g2 ≠ g4 from fun e => by have := f2.lt; omega); replace f2 := f2.ext hx2; replace f3 := f3.ext hx2; replace hg4 := Nat.le_trans hX.size hg4; replace hX := hX.trans hx2; clear hx2)
    | (go_at_call 46; have _t := f2; refine (refBName_any (b := b) (hu.out.ext TxR.stays hX) hraw.out.parent).mono ?_; rintro e w4 ⟨rfl, hx⟩; rw [hnm'.out]; replace f2 := f2.ext hx; replace f3 := f3.ext hx; replace f4 := f4.ext hx; replace hX := hX.trans hx; clear hx)
    | (go_at_call 34; refine (refGet_any (vw := vw) (n := nm) (hK.out.ext BlkR.stays hX)).mono ?_; rintro e w4 ⟨u12, rfl, hu12, hr12, hx⟩; rw [hq'.out]; have hone12 := blk_one (a := (getOr K nm).slot) (b := (getOr K nm).miner) (c := (getOr K nm).var) (d := (getOr K nm).parent) hu12.one'; clear hr12 hu12; replace f2 := f2.ext hx; replace f3 := f3.ext hx; replace f4 := f4.ext hx; replace hX := hX.trans hx; clear hx)
    | ((with_reducible refine at_alloc ?_); refine w_alloc Try.stBlk rfl rfl ?_; intro g8 w2 hg8 hx f8)
    | ((with_reducible refine at_store ?_); refine w_astore Try.stBlk _ _ (us := bRow (getOr K nm) u12) rfl rfl rfl rfl rfl f8 rfl rfl hone12 ?_; intro w3 hm3 f9; replace hx := hm3.after hx (fun i hi => by subst hi; exact hg8); clear f9 hm3 f8 hg8 hone12; replace f2 := f2.ext hx; replace f3 := f3.ext hx; replace f4 := f4.ext hx; replace hX := hX.trans hx; clear hx)
    | (go_at_call 61; refine (refWaiting_any (vk := vk) (hV.out.ext BlkR.stays hX) hV16).mono ?_; rintro e w4 ⟨v34, rfl, o34, hx⟩; replace o34 := o34.ints; replace f2 := f2.ext hx; replace f3 := f3.ext hx; replace f4 := f4.ext hx; replace hX := hX.trans hx; clear hx)
    | (go_at_call 60; refine (refIn_any (n := nm) o34).mono ?_; rintro e w4 ⟨rfl, hx⟩; rw [hr'.out]; clear o34; replace f2 := f2.ext hx; replace f3 := f3.ext hx; replace f4 := f4.ext hx; replace hX := hX.trans hx; clear hx)
    | (go_at_call 62; refine (refReady_any (b := b) (hK.out.ext BlkR.stays hX) hu.out.one').mono ?_; rintro e w4 ⟨rfl, hx⟩; rw [hrd'.out]; replace f2 := f2.ext hx; replace f3 := f3.ext hx; replace f4 := f4.ext hx; replace hX := hX.trans hx; clear hx)
    | (go_at_call 63; refine (refGrow_yes (b := b) (u := u) (er.trans hX) (hs.out.ext hX) hB.out hVone hk400 hur.out hraw.out).mono ?_; rintro e w4 ⟨vk1, rows1, rfl, s1, b1, n1, hx⟩; have n1' := hide_ (show ∀ k, vk1.ownBlock = some k → w.heap.size ≤ k ∧ k ≠ g2 ∧ k ≠ g4 from fun k hk => by have h1 := n1 k hk; have h2 := f2.lt; have h4 := f4.lt; have h5 := hX.size; exact ⟨by omega, by omega, by omega⟩); have one1 := two_one (slS_cell s1).2 hVone; clear n1; replace f2 := f2.ext hx; replace f3 := f3.ext hx; replace f4 := f4.ext hx; replace hX := hX.trans hx; clear hx)
    | ((with_reducible refine at_load ?_); (try refine w_yes _ _ _ rfl rfl rfl ?_); refine w_aload Try.stDoc _ rfl rfl rfl f2 rfl ?_)
    | ((with_reducible refine at_load ?_); (try refine w_yes _ _ _ rfl rfl rfl ?_); refine w_aload Try.stBlk _ rfl rfl rfl f3 rfl ?_)
    | ((with_reducible refine at_store ?_); refine w_astore Try.stDoc _ _ (us := [vk1, vw]) rfl rfl rfl rfl rfl f2 rfl rfl one1 ?_; intro w3 hm3 f9; replace f2 : Fs w3 g2 [vk1, vw] := f9; replace f4 := f4.mod hm3 (fun e => hg24.out e.symm); replace s1 := s1.mod hm3 (fun k hk => (n1'.out k hk).2.1); replace hX := hm3.after hX (fun i hi => by subst hi; exact hg2); clear hm3 f9 one1 f3)
    | ((with_reducible refine at_lit ?_); refine w_new Try.elI (i64s [nm]) rfl rfl rfl (i64s_cells _) rfl (by omega) ?_; intro v12 w5 hx o12; have hS := St8.init f2 f4 s1 b1 n1'.out hVP.out er hX hg2 hg4 hg24.out hx o12; clear hx o12 s1 b1 n1' hX f2 f4)
    | fail) <;> (try simp only [Act.put, List.setIfInBounds_toArray, List.set_cons_zero, List.set_cons_succ]))
  go_loopw [12, 13] (fun u12 u13 wr => ∃ (bo : Bool) (K' V' : List BlkD) (o : List Int) (f : Nat) (vk' vw' : Value), u13 = .bool bo ∧ St8 Wr w S wr g2 g4 vk' vw' u12 (.slice none 0 0) K' V' [] o ∧ V'.length ≤ 16 ∧ K'.length ≤ 400 ∧ o.length + V'.length ≤ 17 ∧ (bo = true → V'.length ≤ f ∧ TrS.drain f K' V' o = D) ∧ (bo = false → (K', V', o) = D)) (fun _ u13 wr => okn u13 + qlen wr g2)
  case atStart => exact ⟨true, K ++ [b], V, [nm], V.length, vk1, vw, rfl, hS, hV16, hK1.out, by simp; omega, fun _ => ⟨Nat.le_refl _, hD'.out⟩, fun h => by cases h⟩
  case round =>
    clear hS
    obtain ⟨bo, K', V', o, f, vk', vw', rfl, hS, hV1, hK2, ho17, hbt, hbf⟩ := hrel
    cases bo
    · obtain rfl := hbf rfl
      have hone := hS.two
      clear hbt hbf
      go_wp2_with ((first
        | ((with_reducible refine at_load ?_); (try refine w_yes _ _ _ rfl rfl rfl ?_); refine w_aload Try.stDoc _ rfl rfl rfl hS.f2 rfl ?_)
        | ((with_reducible refine at_store ?_); refine w_astore Try.stDoc _ _ (us := [vk', vw']) rfl rfl rfl rfl rfl hS.f4 rfl rfl hone ?_; intro w3 hm3 f9; have hfin := hS.done hm3; clear hm3 hS)
        | fail) <;> (try simp only [Act.put, List.setIfInBounds_toArray, List.set_cons_zero, List.set_cons_succ]))
      obtain ⟨h1, h2, h3, hX⟩ := hfin
      exact bodyPost_ret (ret_3 Try.stDoc rfl rfl rfl rfl f9 rfl) rfl (Keep.intro ⟨vk', vw', _, rfl, h1, h2, h3, hX⟩)
    obtain ⟨hf, hdr⟩ := hbt rfl
    have hq0 := hide_ hS.qlen
    have hdr' := hide_ hdr
    clear hbt hbf hdr
    go_wp2_with ((first
      | ((with_reducible refine at_lit ?_); refine w_nnew Try.enBlk [] rfl rfl rfl (by simp) rfl (by omega) ?_; intro v14 w5 B hB1 hB2 hx r14; replace hS := hS.fresh hx hB1 r14; clear hx hB1 hB2 r14)
      | ((with_reducible refine at_field ?_); refine w_field Try.stDoc _ _ _ rfl rfl rfl (by omega) ?_)
      | ((with_reducible refine at_load ?_); refine w_fload _ rfl rfl rfl hS.f2 rfl (agg_of (by kernel_rfl)) ?_)
      | ((with_reducible refine at_bi ?_); refine w_rlen Try.enBlk.elS _ rfl rfl rfl (hS.kv.recs hS.extr) ?_)
      | fail) <;> (try simp only [Act.put, List.setIfInBounds_toArray, List.set_cons_zero, List.set_cons_succ]))
    go_loopw [12, 13, 14, 75] (fun u12 u13 u14 i wx => ∃ (j : Nat) (fnd : Bool) (K2 R : List BlkD) (o2 : List Int) (vk2 : Value), i = .int .i64 j ∧ u13 = .bool fnd ∧ j ≤ V'.length ∧ passF K' o (V'.take j) = (K2, R, o2, fnd) ∧ St8 Wr w S wx g2 g4 vk2 vw' u12 u14 K2 V' R o2) (fun _ _ _ i _ => V'.length - (RowKit.intOf i).toNat)
    case atStart => exact ⟨0, false, K', [], o, vk', rfl, rfl, Nat.zero_le _, rfl, hS⟩
    case round =>
      clear hS
      obtain ⟨j, fnd, K2, R, o2, vk2, rfl, rfl, hj, hpass, hS⟩ := hrel
      have hlens := passF_lens hpass hK2
      obtain ⟨hl1, hl2, hl3⟩ := hlens
      rw [List.length_take] at hl2
      have hpass' := hide_ hpass
      by_cases hge : V'.length ≤ j
      · obtain rfl : j = V'.length := by omega
        have t2 : decide (V'.length < V'.length) = false := by simp
        rw [List.take_length] at hpass
        have hpass2 := hide_ hpass
        obtain ⟨rows14, h14, hB14⟩ := hS.r14
        have hc14 := slS_cell h14.slS
        clear hge hpass h14 hB14
        go_wp2_with ((first
          | ((with_reducible refine at_field ?_); refine w_field Try.stDoc _ _ _ rfl rfl rfl (by omega) ?_)
          | ((with_reducible refine at_store ?_); refine w_fstore _ _ rfl rfl rfl rfl rfl hS.f2 (by simp) hc14.1 hc14.2 (by kernel_rfl) ?_; intro w10 hm10 f10; replace hS := hS.close hm10 f10; clear hm10 f10)
          | fail) <;> (try simp only [Act.put, List.setIfInBounds_toArray, List.set_cons_zero, List.set_cons_succ]))
        go_roundw
        case rel =>
          cases fnd
          · obtain ⟨_, rfl, rfl, rfl⟩ := passF_no hpass2.out
            exact ⟨false, _, _, _, 0, _, _, rfl, hS, hV1, hK2, ho17, (fun h => by cases h), fun _ => (drain_no hpass2.out).symm.trans hdr'.out⟩
          · obtain ⟨x, _, hRl, hdf⟩ := passF_yes hpass2.out
            obtain ⟨f', rfl⟩ : ∃ f', f = f' + 1 := ⟨f - 1, by omega⟩
            exact ⟨true, _, _, _, f', _, _, rfl, hS, by omega, hl1, by omega, fun _ => ⟨by omega, (hdf f').symm.trans hdr'.out⟩, fun h => by cases h⟩
        case measure =>
          rw [hS.qlen, hq0.out]
          cases fnd
          · obtain ⟨_, rfl, rfl, rfl⟩ := passF_no hpass2.out
            simp [okn]
          · obtain ⟨x, _, hRl, hdf⟩ := passF_yes hpass2.out
            simp [okn]; omega
      have hlt : j < V'.length := by omega
      have t2 : decide (j < V'.length) = true := by simpa using hlt
      obtain ⟨y, hy0⟩ : ∃ y, V'[j]? = some y := ⟨_, List.getElem?_eq_getElem hlt⟩
      have htk := hide_ (show V'.take (j + 1) = V'.take j ++ [y] by rw [List.take_add_one, hy0]; rfl)
      have hlt' := hide_ hlt
      have hy := hide_ hy0
      have hR16 := hide_ (show R.length ≤ 16 by omega)
      have hob := hide_ (show (o2.length + [y.name].length) * 8 ≤ 140737488355328 by simp; omega)
      have tok1 : True := trivial
      clear hge hy0 hpass
      cases fnd
      rotate_left
      · go_wp2_with ((first
          | ((with_reducible refine at_idx ?_); have _t := tok1; refine w_kidx Try.enBlk.elS _ _ j rfl rfl rfl rfl hS.kv hy.out ?_; intro pa u16 hrow hu16 hyraw; have hone16 := blk_one (a := y.slot) (b := y.miner) (c := y.var) (d := y.parent) hu16.1.one'; replace hrow := hide_ hrow; replace hu16 := hide_ hu16; replace hyraw := hide_ hyraw; clear tok1)
          | ((with_reducible refine at_idx ?_); refine w_kidx Try.enBlk.elS _ _ j rfl rfl rfl rfl hS.kv hy.out ?_; intro pa2 u2 hrow hu2 hyraw2; replace hrow := hide_ hrow; have hone2 := hide_ (blk_one (a := y.slot) (b := y.miner) (c := y.var) (d := y.parent) hu2.1.one'); replace hu2 := hide_ hu2; clear hyraw2)
          | ((with_reducible refine at_load ?_); refine w_pload Try.stBlk _ rfl rfl rfl hrow.out rfl ?_)
          | ((with_reducible refine at_alloc ?_); refine w_alloc Try.stBlk rfl rfl ?_; intro g16 w2 hg16 hx f16; have hn16 := hide_ (show ¬ g16 = g2 from fun e => by have := hS.f2.lt; omega))
          | ((with_reducible refine at_store ?_); refine w_astore Try.stBlk _ _ (us := bRow y u16) rfl rfl rfl rfl rfl f16 rfl rfl hone16 ?_; intro w3 hm3 f9; replace hx := hm3.after hx (fun i hi => by subst hi; exact hg16); replace f16 : Fs w3 g16 (bRow y u16) := f9; replace hS := hS.extend hx; clear hx hm3 f9 hrow hg16 hone16)
          | ((with_reducible refine at_load ?_); (try refine w_yes _ _ _ rfl rfl rfl ?_); refine w_aload Try.stDoc _ rfl rfl rfl hS.f2 rfl ?_)
          | ((with_reducible refine at_load ?_); (try refine w_yes _ _ _ rfl rfl rfl ?_); refine w_aload Try.stBlk _ rfl rfl rfl f16 rfl ?_)
          | ((with_reducible refine at_field ?_); refine w_field Try.stDoc _ _ _ rfl rfl rfl (by omega) ?_)
          | ((with_reducible refine at_load ?_); refine w_fload _ rfl rfl rfl hS.f2 rfl (agg_of (by kernel_rfl)) ?_)
          | ((with_reducible refine at_lit ?_); refine w_nnew Try.enBlk [bRow y u2] rfl rfl rfl (by simp [bRow]) rfl (by simp) ?_; intro v93 w5 B2 hC1 hC2 hx r93; replace hS := hS.extend hx; clear hC1 hC2 hx)
          | ((with_reducible refine at_bi ?_); obtain ⟨rows14, h14, hB14⟩ := hS.r14; have hb := (show (rows14.length + [bRow y u2].length) * 56 ≤ 140737488355328 by have h1 := hB14.len; have h2 := hR16.out; simp; omega); refine w_napp Try.enBlk _ _ rfl rfl rfl rfl h14 r93.slS (by simp) (fun z hz => by rw [List.mem_singleton.1 hz]; exact hone2.out) hb ?_; intro v94 w9 hm9 r94; replace hS := hS.rest hB14 hm9 r94 hu2.out hyraw.out; clear hm9 r93 r94 h14 hB14 hb)
          | fail) <;> (try simp only [Act.put, List.setIfInBounds_toArray, List.set_cons_zero, List.set_cons_succ]))
        go_roundw
        case rel => exact ⟨j + 1, true, _, _, _, _, by go_num, rfl, hlt'.out, by rw [htk.out]; exact passF_keep hpass'.out (.inl rfl), hS⟩
        case measure => have := hlt'.out; simp [RowKit.intOf]; omega
      obtain ⟨_, eK, eR, eO⟩ := passF_no hpass'.out
      have eK' := hide_ eK
      have eR' := hide_ eR
      have eO' := hide_ eO
      clear eK eR eO
      cases hrd2 : TrS.ready K2 y
      · have hrd2' := hide_ hrd2
        clear hrd2
        go_wp2_with ((first
          | ((with_reducible refine at_idx ?_); have _t := tok1; refine w_kidx Try.enBlk.elS _ _ j rfl rfl rfl rfl hS.kv hy.out ?_; intro pa u16 hrow hu16 hyraw; have hone16 := blk_one (a := y.slot) (b := y.miner) (c := y.var) (d := y.parent) hu16.1.one'; replace hrow := hide_ hrow; replace hu16 := hide_ hu16; replace hyraw := hide_ hyraw; clear tok1)
          | ((with_reducible refine at_idx ?_); refine w_kidx Try.enBlk.elS _ _ j rfl rfl rfl rfl hS.kv hy.out ?_; intro pa2 u2 hrow hu2 hyraw2; replace hrow := hide_ hrow; have hone2 := hide_ (blk_one (a := y.slot) (b := y.miner) (c := y.var) (d := y.parent) hu2.1.one'); replace hu2 := hide_ hu2; clear hyraw2)
          | ((with_reducible refine at_load ?_); refine w_pload Try.stBlk _ rfl rfl rfl hrow.out rfl ?_)
          | ((with_reducible refine at_alloc ?_); refine w_alloc Try.stBlk rfl rfl ?_; intro g16 w2 hg16 hx f16; have hn16 := hide_ (show ¬ g16 = g2 from fun e => by have := hS.f2.lt; omega))
          | ((with_reducible refine at_store ?_); refine w_astore Try.stBlk _ _ (us := bRow y u16) rfl rfl rfl rfl rfl f16 rfl rfl hone16 ?_; intro w3 hm3 f9; replace hx := hm3.after hx (fun i hi => by subst hi; exact hg16); replace f16 : Fs w3 g16 (bRow y u16) := f9; replace hS := hS.extend hx; clear hx hm3 f9 hrow hg16 hone16)
          | (go_at_call 62; refine (refReady_any (b := y) (hS.kk.recs hS.extr) hu16.out.1.one').mono ?_; rintro e w4 ⟨rfl, hx⟩; rw [hrd2'.out]; replace hS := hS.extend hx; replace f16 := f16.ext hx; clear hx)
          | ((with_reducible refine at_load ?_); (try refine w_yes _ _ _ rfl rfl rfl ?_); refine w_aload Try.stDoc _ rfl rfl rfl hS.f2 rfl ?_)
          | ((with_reducible refine at_load ?_); (try refine w_yes _ _ _ rfl rfl rfl ?_); refine w_aload Try.stBlk _ rfl rfl rfl f16 rfl ?_)
          | ((with_reducible refine at_field ?_); refine w_field Try.stDoc _ _ _ rfl rfl rfl (by omega) ?_)
          | ((with_reducible refine at_load ?_); refine w_fload _ rfl rfl rfl hS.f2 rfl (agg_of (by kernel_rfl)) ?_)
          | ((with_reducible refine at_lit ?_); refine w_nnew Try.enBlk [bRow y u2] rfl rfl rfl (by simp [bRow]) rfl (by simp) ?_; intro v93 w5 B2 hC1 hC2 hx r93; replace hS := hS.extend hx; clear hC1 hC2 hx)
          | ((with_reducible refine at_bi ?_); obtain ⟨rows14, h14, hB14⟩ := hS.r14; have hb := (show (rows14.length + [bRow y u2].length) * 56 ≤ 140737488355328 by have h1 := hB14.len; have h2 := hR16.out; simp; omega); refine w_napp Try.enBlk _ _ rfl rfl rfl rfl h14 r93.slS (by simp) (fun z hz => by rw [List.mem_singleton.1 hz]; exact hone2.out) hb ?_; intro v94 w9 hm9 r94; replace hS := hS.rest hB14 hm9 r94 hu2.out hyraw.out; clear hm9 r93 r94 h14 hB14 hb)
          | fail) <;> (try simp only [Act.put, List.setIfInBounds_toArray, List.set_cons_zero, List.set_cons_succ]))
        go_roundw
        case rel => exact ⟨j + 1, false, _, _, _, _, by go_num, rfl, hlt'.out, by rw [htk.out]; exact passF_keep hpass'.out (.inr (by rw [← eK'.out]; exact hrd2'.out)), hS⟩
        case measure => have := hlt'.out; simp [RowKit.intOf]; omega
      have hrd2' := hide_ hrd2
      clear hrd2
      have hr3 := hide_ (show TrS.ready K' y = true by rw [← eK'.out]; exact hrd2'.out)
      by_cases hk4 : K2.length < 400
      · go_wp2_with ((first
          | ((with_reducible refine at_idx ?_); have _t := tok1; refine w_kidx Try.enBlk.elS _ _ j rfl rfl rfl rfl hS.kv hy.out ?_; intro pa u16 hrow hu16 hyraw; have hone16 := blk_one (a := y.slot) (b := y.miner) (c := y.var) (d := y.parent) hu16.1.one'; replace hrow := hide_ hrow; replace hu16 := hide_ hu16; replace hyraw := hide_ hyraw; clear tok1)
          | ((with_reducible refine at_load ?_); refine w_pload Try.stBlk _ rfl rfl rfl hrow.out rfl ?_)
          | ((with_reducible refine at_alloc ?_); refine w_alloc Try.stBlk rfl rfl ?_; intro g16 w2 hg16 hx f16; have hn16 := hide_ (show ¬ g16 = g2 from fun e => by have := hS.f2.lt; omega))
          | ((with_reducible refine at_store ?_); refine w_astore Try.stBlk _ _ (us := bRow y u16) rfl rfl rfl rfl rfl f16 rfl rfl hone16 ?_; intro w3 hm3 f9; replace hx := hm3.after hx (fun i hi => by subst hi; exact hg16); replace f16 : Fs w3 g16 (bRow y u16) := f9; replace hS := hS.extend hx; clear hx hm3 f9 hrow hg16 hone16)
          | (go_at_call 62; refine (refReady_any (b := y) (hS.kk.recs hS.extr) hu16.out.1.one').mono ?_; rintro e w4 ⟨rfl, hx⟩; rw [hrd2'.out]; replace hS := hS.extend hx; replace f16 := f16.ext hx; clear hx)
          | (go_at_call 63; obtain ⟨rowsk, hsk, hBk, _⟩ := hS.kk; refine (refGrow_yes (b := y) (u := u16) hS.extr hsk hBk hS.kv.one hk4 hu16.out hyraw.out).mono ?_; rintro e w4 ⟨vk3, rows3, rfl, s3, b3, n3, hx⟩; have k3 := hS.grown s3 b3 n3; replace hS := hS.extend hx; replace f16 := f16.ext hx; clear hx s3 b3 n3 hsk hBk)
          | ((with_reducible refine at_alloc ?_); refine w_alloc Try.stDoc rfl rfl ?_; intro g17 w2 hg17 hx f17)
          | ((with_reducible refine at_store ?_); refine w_astore Try.stDoc _ _ (us := [vk3, vw']) rfl rfl rfl rfl rfl f17 rfl rfl (two_one k3.one hS.kv.one) ?_; intro w3 hm3 f9; replace hx := hm3.after hx (fun i hi => by subst hi; exact hg17); replace f17 : Fs w3 g17 [vk3, vw'] := f9; replace hS := hS.extend hx; replace k3 := k3.ext hx; replace f16 := f16.ext hx; clear hx hm3 f9 hg17)
          | ((with_reducible refine at_load ?_); refine w_aload Try.stDoc _ rfl rfl rfl f17 rfl ?_)
          | ((with_reducible refine at_store ?_); refine w_astore Try.stDoc _ _ (us := [vk3, vw']) rfl rfl rfl rfl rfl hS.f2 rfl rfl (two_one k3.one hS.kv.one) ?_; intro w3 hm3 f9; replace hS := hS.store k3 hm3 f9; replace f16 := f16.mod hm3 hn16.out; clear hm3 f9 k3 f17)
          | (go_at_call 46; refine (refBName_any (b := y) (hu16.out.1.ext TxR.stays hS.extr) hyraw.out.parent).mono ?_; rintro e w4 ⟨rfl, hx⟩; replace hS := hS.extend hx; clear hx f16)
          | ((with_reducible refine at_lit ?_); refine w_new Try.elI (i64s [y.name]) rfl rfl rfl (i64s_cells _) rfl (by omega) ?_; intro v106 w5 hx o106; replace o106 : OwnI _ w5 v106 [y.name] := o106; replace hS := hS.extend hx; clear hx)
          | ((with_reducible refine at_bi ?_); refine appi _ _ rfl rfl rfl rfl hS.o12 o106.ints hob.out hS.ext.size ?_; intro v107 w9 o9 hb9 hg9 hg9'; replace hS := hS.out o9 hg9 hg9'; clear o9 hb9 hg9 hg9' o106)
          | ((with_reducible refine at_load ?_); (try refine w_yes _ _ _ rfl rfl rfl ?_); refine w_aload Try.stDoc _ rfl rfl rfl hS.f2 rfl ?_)
          | ((with_reducible refine at_load ?_); (try refine w_yes _ _ _ rfl rfl rfl ?_); refine w_aload Try.stBlk _ rfl rfl rfl f16 rfl ?_)
          | fail) <;> (try simp only [Act.put, List.setIfInBounds_toArray, List.set_cons_zero, List.set_cons_succ]))
        go_roundw
        case rel => exact ⟨j + 1, true, K2 ++ [y], R, _, _, by go_num, rfl, hlt'.out, by rw [htk.out, passF_take hpass'.out hr3.out, if_pos (by rw [← eK'.out]; exact hk4), eK'.out, eR'.out, eO'.out], hS⟩
        case measure => have := hlt'.out; simp [RowKit.intOf]; omega
      · have hk5 : 400 ≤ K2.length := by omega
        go_wp2_with ((first
          | ((with_reducible refine at_idx ?_); have _t := tok1; refine w_kidx Try.enBlk.elS _ _ j rfl rfl rfl rfl hS.kv hy.out ?_; intro pa u16 hrow hu16 hyraw; have hone16 := blk_one (a := y.slot) (b := y.miner) (c := y.var) (d := y.parent) hu16.1.one'; replace hrow := hide_ hrow; replace hu16 := hide_ hu16; replace hyraw := hide_ hyraw; clear tok1)
          | ((with_reducible refine at_load ?_); refine w_pload Try.stBlk _ rfl rfl rfl hrow.out rfl ?_)
          | ((with_reducible refine at_alloc ?_); refine w_alloc Try.stBlk rfl rfl ?_; intro g16 w2 hg16 hx f16; have hn16 := hide_ (show ¬ g16 = g2 from fun e => by have := hS.f2.lt; omega))
          | ((with_reducible refine at_store ?_); refine w_astore Try.stBlk _ _ (us := bRow y u16) rfl rfl rfl rfl rfl f16 rfl rfl hone16 ?_; intro w3 hm3 f9; replace hx := hm3.after hx (fun i hi => by subst hi; exact hg16); replace f16 : Fs w3 g16 (bRow y u16) := f9; replace hS := hS.extend hx; clear hx hm3 f9 hrow hg16 hone16)
          | (go_at_call 62; refine (refReady_any (b := y) (hS.kk.recs hS.extr) hu16.out.1.one').mono ?_; rintro e w4 ⟨rfl, hx⟩; rw [hrd2'.out]; replace hS := hS.extend hx; replace f16 := f16.ext hx; clear hx)
          | (go_at_call 63; refine (refGrow_no (b := y) (u := u16) (hS.kk.recs hS.extr) hS.kv.one hk5).mono ?_; rintro e w4 ⟨rfl, hx⟩; replace hS := hS.extend hx; replace f16 := f16.ext hx; have k3 := hS.kk; clear hx)
          | ((with_reducible refine at_alloc ?_); refine w_alloc Try.stDoc rfl rfl ?_; intro g17 w2 hg17 hx f17)
          | ((with_reducible refine at_store ?_); refine w_astore Try.stDoc _ _ (us := [vk2, vw']) rfl rfl rfl rfl rfl f17 rfl rfl hS.two ?_; intro w3 hm3 f9; replace hx := hm3.after hx (fun i hi => by subst hi; exact hg17); replace f17 : Fs w3 g17 [vk2, vw'] := f9; replace hS := hS.extend hx; replace k3 := k3.ext hx; replace f16 := f16.ext hx; clear hx hm3 f9 hg17)
          | ((with_reducible refine at_load ?_); refine w_aload Try.stDoc _ rfl rfl rfl f17 rfl ?_)
          | ((with_reducible refine at_store ?_); refine w_astore Try.stDoc _ _ (us := [vk2, vw']) rfl rfl rfl rfl rfl hS.f2 rfl rfl hS.two ?_; intro w3 hm3 f9; replace hS := hS.store k3 hm3 f9; replace f16 := f16.mod hm3 hn16.out; clear hm3 f9 k3 f17)
          | ((with_reducible refine at_load ?_); (try refine w_yes _ _ _ rfl rfl rfl ?_); refine w_aload Try.stDoc _ rfl rfl rfl hS.f2 rfl ?_)
          | ((with_reducible refine at_load ?_); (try refine w_yes _ _ _ rfl rfl rfl ?_); refine w_aload Try.stBlk _ rfl rfl rfl f16 rfl ?_)
          | fail) <;> (try simp only [Act.put, List.setIfInBounds_toArray, List.set_cons_zero, List.set_cons_succ]))
        go_roundw
        case rel => exact ⟨j + 1, true, K2, R, o2, _, by go_num, rfl, hlt'.out, by rw [htk.out, passF_take hpass'.out hr3.out, if_neg (by rw [← eK'.out]; exact hk4), eK'.out, eR'.out, eO'.out], hS⟩
        case measure => have := hlt'.out; simp [RowKit.intOf]; omega
end Go.Proofs.Ytdoeoncmhaihbaa
namespace Go.Proofs.Ytdoeoncmhaihbaa
set_option maxRecDepth 100000
open Go.RowKit Go.ChangeShapes Go.WideShapes Go.ChangeAt

theorem refAdd_kp {Wr : WB} {w : World} {S : Nat → Prop} {vk vw u : Value} {K V : List BlkD} {b : BlkD} (er : Ext Wr.w w) (hKP : KP Wr S w vk K) (hVP : KP Wr S w vw V) (hV16 : V.length ≤ 16) (hur : Wr.Has u b) (hraw : b.Raw) {K2 V2 : List BlkD} {Ln : List Int} {ok : Bool} (hR : TrS.add ⟨K, V⟩ b = (⟨K2, V2⟩, Ln, ok)) :
    Calls Try.prog 45 #[.agg #[vk, vw], .agg (bRow b u).toArray] w fun e w' => ∃ vk' vw' v', e = .returned (.tuple #[.agg #[vk', vw'], v', .bool ok]) ∧ KP Wr (fun k => S k ∨ w.heap.size ≤ k) w' vk' K2 ∧ KP Wr (fun k => S k ∨ w.heap.size ≤ k) w' vw' V2 ∧ OwnI w.heap.size w' v' Ln ∧ Ext w w' := by
  have no : ∀ w', OwnI w.heap.size w' (.slice none 0 0) [] := fun w' => OwnI.nil _ w'
  have hK := hKP.recs er
  have hV := hVP.recs er
  have hu := hur.1.ext TxR.stays er
  have wide : ∀ {v : Value} {l : List BlkD} {w' : World}, KP Wr S w v l → Ext w w' → KP Wr (fun k => S k ∨ w.heap.size ≤ k) w' v l := fun h hx => (h.ext hx).mono fun _ _ hs => .inl hs
  by_cases hc : b.name = 0 ∨ TrS.has K b.name = true ∨ TrS.has V b.name = true
  · rw [add_c1 hc] at hR
    simp only [Prod.mk.injEq, TrS.mk.injEq] at hR
    obtain ⟨⟨rfl, rfl⟩, rfl, rfl⟩ := hR
    refine (refAdd_c1 hK hV hV16 hu hraw hc).mono ?_
    rintro e w' ⟨rfl, hX⟩
    exact ⟨vk, vw, _, rfl, wide hKP hX, wide hVP hX, no _, hX⟩
  cases hrd : TrS.ready K b
  · rw [add_c2 hc hrd] at hR
    simp only [Prod.mk.injEq, TrS.mk.injEq] at hR
    obtain ⟨⟨rfl, rfl⟩, rfl, rfl⟩ := hR
    obtain ⟨rows, hs0, hB0, _⟩ := hVP
    refine (refAdd_c2 er hK hs0 hB0 hV16 hur hraw hc hrd).mono ?_
    rintro e w' ⟨vw', rows', rfl, s1, b1, n1, hX⟩
    exact ⟨vk, vw', _, rfl, wide hKP hX, KP.new s1 b1 fun k hk => .inr (n1 k hk), no _, hX⟩
  by_cases hk : K.length < 400
  · have e : TrS.add ⟨K, V⟩ b = (⟨(TrS.drain V.length (K ++ [b]) V [b.name]).1, (TrS.drain V.length (K ++ [b]) V [b.name]).2.1⟩, (TrS.drain V.length (K ++ [b]) V [b.name]).2.2, true) := by
      unfold TrS.add
      rw [if_neg hc, if_pos hrd, if_pos hk]
    rw [e] at hR
    simp only [Prod.mk.injEq, TrS.mk.injEq] at hR
    obtain ⟨⟨rfl, rfl⟩, rfl, rfl⟩ := hR
    exact refAdd_c4 er hKP hVP hV16 hur hraw hc hrd hk
  · rw [add_c3 hc hrd hk] at hR
    simp only [Prod.mk.injEq, TrS.mk.injEq] at hR
    obtain ⟨⟨rfl, rfl⟩, rfl, rfl⟩ := hR
    refine (refAdd_c3 hK hV hV16 hu hraw hc hrd (by omega)).mono ?_
    rintro e w' ⟨rfl, hX⟩
    exact ⟨vk, vw, _, rfl, wide hKP hX, wide hVP hX, no _, hX⟩

/-! ### A number put into a rising list, as plain mathematics -/
def stI (p : List Int) (n : Int) : List Int × Bool := if p.any (fun y => decide (n ≤ y)) = true then (ins p n, true) else (p, false)
theorem ins_big {n : Int} : ∀ {p q : List Int}, (∀ y ∈ p, y < n) → ins (p ++ q) n = p ++ ins q n
  | [], q, _ => rfl
  | y :: p, q, h => by
    have h1 := h y (List.mem_cons_self ..)
    rw [List.cons_append, ins, if_neg (by omega), if_neg (by omega), ins_big fun z hz => h z (List.mem_cons_of_mem _ hz)]; rfl
theorem ins_pre {n x : Int} : ∀ {p : List Int}, (∃ y ∈ p, n ≤ y) → ins (p ++ [x]) n = ins p n ++ [x]
  | [], h => by obtain ⟨y, hy, _⟩ := h; simp at hy
  | y :: p, h => by
    rw [List.cons_append, ins, ins]
    by_cases h1 : n < y
    · rw [if_pos h1, if_pos h1]; rfl
    · rw [if_neg h1, if_neg h1]
      by_cases h2 : n = y
      · rw [if_pos h2, if_pos h2]; rfl
      · rw [if_neg h2, if_neg h2, ins_pre]
        · rfl
        · obtain ⟨z, hz, hzn⟩ := h
          rcases List.mem_cons.1 hz with rfl | hz
          · omega
          · exact ⟨z, hz, hzn⟩
section
variable {p os : List Int} {n x : Int}
theorem stI_true (h : stI p n = (os, true)) : os = ins p n ∧ ∃ y ∈ p, n ≤ y := by
  unfold stI at h
  split at h
  · rename_i hc
    simp at h
    simp only [List.any_eq_true, decide_eq_true_eq] at hc
    exact ⟨h.symm, hc⟩
  · simp at h
theorem stI_false (h : stI p n = (os, false)) : os = p ∧ ∀ y ∈ p, y < n := by
  unfold stI at h
  split at h
  · simp at h
  · rename_i hc
    simp at h
    refine ⟨h.symm, fun y hy => ?_⟩
    simp only [List.any_eq_true, decide_eq_true_eq, not_exists, not_and] at hc
    have := hc y hy; omega
theorem stI_of (h : ∃ y ∈ p, n ≤ y) : stI p n = (ins p n, true) := by
  unfold stI
  rw [if_pos]
  simp only [List.any_eq_true, decide_eq_true_eq]
  exact h
theorem stI_a (h : stI p n = (os, true)) (hr : Rise (p ++ [x])) : stI (p ++ [x]) n = (os ++ [x], true) ∧ x ≠ n := by
  obtain ⟨rfl, y, hy, hn⟩ := stI_true h
  refine ⟨by rw [stI_of ⟨y, List.mem_append_left _ hy, hn⟩, ins_pre ⟨y, hy, hn⟩], ?_⟩
  have := (List.pairwise_append.1 hr).2.2 y hy x (by simp)
  omega
theorem stI_b (h : stI p n = (os, false)) (hx : x < n) : stI (p ++ [x]) n = (os ++ [x], false) := by
  obtain ⟨rfl, ha⟩ := stI_false h
  unfold stI
  rw [if_neg]
  simp only [List.any_eq_true, decide_eq_true_eq, not_exists, not_and]
  intro y hy
  rcases List.mem_append.1 hy with hy | hy
  · have := ha y hy; omega
  · simp at hy; omega
theorem stI_c (h : stI p n = (os, false)) : stI (p ++ [n]) n = (os ++ [n], true) := by
  obtain ⟨rfl, ha⟩ := stI_false h
  rw [stI_of ⟨n, by simp, Int.le_refl _⟩, ins_big ha]
  simp [ins]
theorem stI_d (h : stI p n = (os, false)) (hx : n < x) : stI (p ++ [x]) n = (os ++ [n] ++ [x], true) := by
  obtain ⟨rfl, ha⟩ := stI_false h
  rw [stI_of ⟨x, by simp, by omega⟩, ins_big ha]
  simp [ins, hx]
theorem ins_len_le : ∀ {l : List Int} {n : Int}, (ins l n).length ≤ l.length + 1
  | [], _ => by simp [ins]
  | y :: l, n => by
    unfold ins
    split
    · simp
    · split
      · simp
      · have := ins_len_le (l := l) (n := n); simp; omega
theorem stI_len : (stI p n).1.length ≤ p.length + 1 := by
  unfold stI
  split
  · exact ins_len_le
  · simp
theorem rise_snoc {l : List Int} : rise (l ++ [x]) = ins (rise l) x := by unfold rise; rw [List.foldl_append]; rfl
theorem rise_len_le (l : List Int) : (rise l).length ≤ l.length := by
  have h : ∀ (l a : List Int), (l.foldl ins a).length ≤ a.length + l.length := by
    intro l
    induction l with
    | nil => intro a; simp
    | cons y l ih =>
      intro a
      have h1 := ih (ins a y)
      have h2 := ins_len_le (l := a) (n := y)
      rw [List.foldl_cons, List.length_cons]; omega
  have := h l []
  simpa [rise] using this
end

set_option maxRecDepth 100000 in
set_option maxHeartbeats 3200000 in
theorem refInsert_any {w : World} {v : Value} {l : List Int} {n : Int} (hl0 : Ints w v l) (hr0 : Rise l) (hlen : l.length ≤ 400) :
    Calls Try.prog 74 #[v, .int .i64 n] w fun e w' => ∃ v', e = .returned v' ∧ OwnI w.heap.size w' v' (ins l n) ∧ Ext w w' := by
  refine calls_keep ?_
  have hl := hide_ hl0
  have hr := hide_ hr0
  clear hl0 hr0
  have hX0 := Ext.refl w
  go_enter Try.func74, Try.ntmps74
  go_wp2_with ((first
    | ((with_reducible refine at_lit ?_); refine w_new Try.elI (i64s []) rfl rfl rfl (i64s_cells _) rfl (by omega) ?_; intro v5 w5 hX o5; replace o5 : OwnI _ w5 v5 [] := o5; clear hX0)
    | ((with_reducible refine at_bi ?_); refine i_len _ rfl rfl (v := v) rfl (hl.out.ext hX) ?_)
    | fail) <;> (try simp only [Act.put, List.setIfInBounds_toArray, List.set_cons_zero, List.set_cons_succ]))
  go_loopw [5, 6, 12] (fun u5 u6 i wr => ∃ (k : Nat) (os : List Int) (dn : Bool), i = .int .i64 k ∧ u6 = .bool dn ∧ k ≤ l.length ∧ stI (l.take k) n = (os, dn) ∧ OwnI w.heap.size wr u5 os ∧ Ext w wr) (fun _ _ i _ => l.length - (RowKit.intOf i).toNat)
  case atStart => exact ⟨0, [], false, rfl, rfl, Nat.zero_le _, rfl, o5, hX⟩
  case round =>
    clear hX o5
    obtain ⟨k, os, dn, rfl, rfl, hk, hst, ho, hX⟩ := hrel
    have hosl := stI_len (p := l.take k) (n := n)
    rw [hst, List.length_take] at hosl
    simp only at hosl
    have hb1 := hide_ (show (os.length + [n].length) * 8 ≤ 140737488355328 by simp; omega)
    by_cases hge : l.length ≤ k
    · obtain rfl : k = l.length := by omega
      have t2 : decide (l.length < l.length) = false := by simp
      rw [List.take_length] at hst
      have hst' := hide_ hst
      clear hge hst hosl
      cases dn
      · go_wp2_with ((first
          | ((with_reducible refine at_lit ?_); refine w_new Try.elI (i64s [n]) rfl rfl rfl (i64s_cells _) rfl (by omega) ?_; intro v2 w5 hx3 o2; replace o2 : OwnI _ w5 v2 [n] := o2; replace ho := own_ext ho hx3; replace hX := hX.trans hx3; clear hx3)
          | ((with_reducible refine at_bi ?_); refine appi _ _ rfl rfl rfl rfl ho o2.ints hb1.out hX.size ?_; intro v9 w9 o9 hb9 hg9 hg9'; replace hX := hX.trans' hb9; replace o9 := hide_ o9; clear hb9 hg9 hg9' ho o2)
          | fail) <;> (try simp only [Act.put, List.setIfInBounds_toArray, List.set_cons_zero, List.set_cons_succ]))
        go_ret
        obtain ⟨rfl, ha⟩ := stI_false hst'.out
        refine Keep.intro ⟨_, rfl, ?_, hX⟩
        have e := ins_big (q := []) ha
        rw [List.append_nil] at e
        rw [e]; exact o9.out
      · replace ho := hide_ ho
        go_wp2
        go_ret
        exact Keep.intro ⟨_, rfl, by rw [← (stI_true hst'.out).1]; exact ho.out, hX⟩
    have hlt : k < l.length := by omega
    have t2 : decide (k < l.length) = true := by simpa using hlt
    obtain ⟨x, hx0⟩ : ∃ x, l[k] = x := ⟨_, rfl⟩
    have htk0 : l.take (k + 1) = l.take k ++ [x] := by rw [List.take_add_one, List.getElem?_eq_getElem hlt, hx0]; rfl
    have hrx := hide_ (show Rise (l.take k ++ [x]) by rw [← htk0]; exact hr.out.sublist (List.take_sublist _ _))
    have htk := hide_ htk0
    have hx0' := hide_ hx0
    have hlt' := hide_ hlt
    have hst' := hide_ hst
    have hb2 := hide_ (show (os.length + [x].length) * 8 ≤ 140737488355328 by simp; omega)
    have hb3 := hide_ (show ((os ++ [n]).length + [x].length) * 8 ≤ 140737488355328 by simp; omega)
    clear hge hx0 htk0 hst hosl
    cases dn
    rotate_left
    · obtain ⟨e1, e2⟩ := stI_a hst'.out hrx.out
      have t6 : (x != n) = true := by simpa using e2
      have e1' := hide_ e1
      clear e1 e2
      go_wp2_with ((first
        | ((with_reducible refine at_idx ?_); refine i_idx _ _ k rfl rfl rfl (hl.out.ext hX) rfl hlt'.out ?_; intro ad had; rw [hx0'.out] at had)
        | ((with_reducible refine at_lit ?_); refine w_new Try.elI (i64s [x]) rfl rfl rfl (i64s_cells _) rfl (by omega) ?_; intro v2 w5 hx3 o3; replace o3 : OwnI _ w5 v2 [x] := o3; replace ho := own_ext ho hx3; replace hX := hX.trans hx3; clear hx3)
        | ((with_reducible refine at_bi ?_); refine appi _ _ rfl rfl rfl rfl ho o3.ints hb2.out hX.size ?_; intro v9 w9 o9 hb9 hg9 hg9'; replace hX := hX.trans' hb9; replace ho := o9; clear hb9 hg9 hg9' o3 o9)
        | fail) <;> (try simp only [Act.put, List.setIfInBounds_toArray, List.set_cons_zero, List.set_cons_succ]))
      go_roundw
      case rel => exact ⟨k + 1, _, true, by go_num, rfl, hlt'.out, by rw [htk.out]; exact e1'.out, ho, hX⟩
      case measure => have := hlt'.out; simp [RowKit.intOf]; omega
    by_cases hxn : x < n
    · have t5 : decide (n ≤ x) = false := decide_eq_false (by omega)
      have t6 : (x != n) = true := by simp; omega
      have e1' := hide_ (stI_b hst'.out hxn)
      clear hxn
      go_wp2_with ((first
        | ((with_reducible refine at_idx ?_); refine i_idx _ _ k rfl rfl rfl (hl.out.ext hX) rfl hlt'.out ?_; intro ad had; rw [hx0'.out] at had)
        | ((with_reducible refine at_lit ?_); refine w_new Try.elI (i64s [x]) rfl rfl rfl (i64s_cells _) rfl (by omega) ?_; intro v2 w5 hx3 o3; replace o3 : OwnI _ w5 v2 [x] := o3; replace ho := own_ext ho hx3; replace hX := hX.trans hx3; clear hx3)
        | ((with_reducible refine at_bi ?_); refine appi _ _ rfl rfl rfl rfl ho o3.ints hb2.out hX.size ?_; intro v9 w9 o9 hb9 hg9 hg9'; replace hX := hX.trans' hb9; replace ho := o9; clear hb9 hg9 hg9' o3 o9)
        | fail) <;> (try simp only [Act.put, List.setIfInBounds_toArray, List.set_cons_zero, List.set_cons_succ]))
      go_roundw
      case rel => exact ⟨k + 1, _, false, by go_num, rfl, hlt'.out, by rw [htk.out]; exact e1'.out, ho, hX⟩
      case measure => have := hlt'.out; simp [RowKit.intOf]; omega
    have t5 : decide (n ≤ x) = true := decide_eq_true (by omega)
    by_cases hxe : x = n
    · have t6 : (x != n) = false := by simpa using hxe
      have e1' := hide_ (show stI (l.take k ++ [x]) n = (os ++ [n], true) by rw [hxe]; exact stI_c hst'.out)
      clear hxn hxe
      go_wp2_with ((first
        | ((with_reducible refine at_idx ?_); refine i_idx _ _ k rfl rfl rfl (hl.out.ext hX) rfl hlt'.out ?_; intro ad had; rw [hx0'.out] at had)
        | ((with_reducible refine at_lit ?_); refine w_new Try.elI (i64s [n]) rfl rfl rfl (i64s_cells _) rfl (by omega) ?_; intro v2 w5 hx3 o2; replace o2 : OwnI _ w5 v2 [n] := o2; replace ho := own_ext ho hx3; replace hX := hX.trans hx3; clear hx3)
        | ((with_reducible refine at_bi ?_); refine appi _ _ rfl rfl rfl rfl ho o2.ints hb1.out hX.size ?_; intro v9 w9 o9 hb9 hg9 hg9'; replace hX := hX.trans' hb9; replace ho := o9; clear hb9 hg9 hg9' o2 o9)
        | fail) <;> (try simp only [Act.put, List.setIfInBounds_toArray, List.set_cons_zero, List.set_cons_succ]))
      go_roundw
      case rel => exact ⟨k + 1, _, true, by go_num, rfl, hlt'.out, by rw [htk.out]; exact e1'.out, ho, hX⟩
      case measure => have := hlt'.out; simp [RowKit.intOf]; omega
    · have t6 : (x != n) = true := by simpa using hxe
      have e1' := hide_ (stI_d hst'.out (show n < x by omega))
      have tokA : True := trivial
      clear hxn hxe
      go_wp2_with ((first
        | ((with_reducible refine at_idx ?_); refine i_idx _ _ k rfl rfl rfl (hl.out.ext hX) rfl hlt'.out ?_; intro ad had; rw [hx0'.out] at had)
        | ((with_reducible refine at_lit ?_); have _t := tokA; refine w_new Try.elI (i64s [n]) rfl rfl rfl (i64s_cells _) rfl (by omega) ?_; intro v2 w5 hx3 o2; replace o2 : OwnI _ w5 v2 [n] := o2; replace ho := own_ext ho hx3; replace hX := hX.trans hx3; clear hx3 tokA)
        | ((with_reducible refine at_bi ?_); refine appi _ _ rfl rfl rfl rfl ho o2.ints hb1.out hX.size ?_; intro v9 w9 o9 hb9 hg9 hg9'; replace hX := hX.trans' hb9; replace ho := o9; clear hb9 hg9 hg9' o2 o9)
        | ((with_reducible refine at_lit ?_); refine w_new Try.elI (i64s [x]) rfl rfl rfl (i64s_cells _) rfl (by omega) ?_; intro v2 w5 hx3 o3; replace o3 : OwnI _ w5 v2 [x] := o3; replace ho := own_ext ho hx3; replace hX := hX.trans hx3; clear hx3)
        | ((with_reducible refine at_bi ?_); refine appi _ _ rfl rfl rfl rfl ho o3.ints hb3.out hX.size ?_; intro v9 w9 o9 hb9 hg9 hg9'; replace hX := hX.trans' hb9; replace ho := o9; clear hb9 hg9 hg9' o3 o9)
        | fail) <;> (try simp only [Act.put, List.setIfInBounds_toArray, List.set_cons_zero, List.set_cons_succ]))
      go_roundw
      case rel => exact ⟨k + 1, _, true, by go_num, rfl, hlt'.out, by rw [htk.out]; exact e1'.out, ho, hX⟩
      case measure => have := hlt'.out; simp [RowKit.intOf]; omega
end Go.Proofs.Ytdoeoncmhaihbaa
namespace Go.Proofs.Ytdoeoncmhaihbaa
set_option maxRecDepth 100000
open Go.RowKit Go.ChangeShapes Go.WideShapes Go.ChangeAt

set_option maxRecDepth 100000 in
set_option maxHeartbeats 1600000 in
theorem refNames_any {w : World} {vk vw : Value} {K : List BlkD} (hK0 : Recs 5 BlkR w vk K) (hlen : K.length ≤ 400) :
    Calls Try.prog 64 #[.agg #[vk, vw]] w fun e w' => ∃ v', e = .returned v' ∧ Ints w' v' (TrS.names K) ∧ Ext w w' := by
  refine calls_keep ?_
  have hK := hide_ hK0
  clear hK0
  go_enter Try.func64, Try.ntmps64
  go_wp2_with ((first
    | ((with_reducible refine at_box ?_); refine w_box _ [vk, vw] rfl rfl rfl rfl ?_; intro g1 w1 hg1 hX f1)
    | ((with_reducible refine at_lit ?_); refine w_new Try.elI (i64s []) rfl rfl rfl (i64s_cells _) rfl (by omega) ?_; intro v3 w5 hx3 o3; replace o3 : OwnI _ w5 v3 [] := o3; have j3 := o3.ints; replace f1 := f1.ext hx3; replace hX := hX.trans hx3; clear hx3 o3)
    | ((with_reducible refine at_field ?_); (try refine w_yes _ _ _ rfl rfl rfl ?_); refine w_field Try.stDoc _ _ _ rfl rfl rfl (by omega) ?_)
    | ((with_reducible refine at_load ?_); (try refine w_yes _ _ _ rfl rfl rfl ?_); refine w_fload _ rfl rfl rfl f1 rfl (agg_of (by kernel_rfl)) ?_)
    | ((with_reducible refine at_bi ?_); refine w_rlen Try.enBlk.elS _ rfl rfl rfl (hK.out.ext BlkR.stays hX) ?_)
    | fail) <;> (try simp only [Act.put, List.setIfInBounds_toArray, List.set_cons_zero, List.set_cons_succ]))
  go_loopw [3, 10] (fun u3 i wr => ∃ (k : Nat) (l : List Int), i = .int .i64 k ∧ k ≤ K.length ∧ rise ((K.take k).map BlkD.name) = l ∧ Ints wr u3 l ∧ Ext w wr) (fun _ i _ => K.length - (RowKit.intOf i).toNat)
  case atStart => exact ⟨0, [], rfl, Nat.zero_le _, rfl, j3, hX⟩
  case round =>
    clear hX j3 f1
    obtain ⟨k, l, rfl, hk, hl, ho, hX⟩ := hrel
    by_cases hge : K.length ≤ k
    · obtain rfl : k = K.length := by omega
      have t2 : decide (K.length < K.length) = false := by simp
      rw [List.take_length] at hl
      have e := hide_ (show TrS.names K = l from hl)
      replace ho := hide_ ho
      clear hl hge
      go_wp2
      go_ret
      exact Keep.intro ⟨_, rfl, by rw [e.out]; exact ho.out, hX⟩
    have hlt : k < K.length := by omega
    have t2 : decide (k < K.length) = true := by simpa using hlt
    obtain ⟨d, hd0⟩ : ∃ d, K[k]? = some d := ⟨_, List.getElem?_eq_getElem hlt⟩
    have hlt' := hide_ hlt
    have hd := hide_ hd0
    have hR := hide_ (show Rise l by rw [← hl]; exact rise_rise _)
    have hl400 := hide_ (show l.length ≤ 400 by
      rw [← hl]
      have := rise_len_le ((K.take k).map BlkD.name)
      rw [List.length_map, List.length_take] at this; omega)
    have he := hide_ (show rise ((K.take (k + 1)).map BlkD.name) = ins l d.name by rw [List.take_add_one, hd0, List.map_append, ← hl]; exact rise_snoc)
    clear hge hlt hd0 hl
    go_wp2_with ((first
      | (go_at_call 46; refine (refBName_any (b := d) (hu.out.ext TxR.stays hX) hraw.out.parent).mono ?_; rintro e w4 ⟨rfl, hx⟩; replace ho := ho.ext hx; replace hX := hX.trans hx; clear hx f2)
      | (go_at_call 74; refine (refInsert_any (n := d.name) ho hR.out hl400.out).mono ?_; rintro e w4 ⟨v17, rfl, o17, hx⟩; replace hX := hX.trans hx; clear ho; have ho := o17.ints; clear hx o17)
      | ((with_reducible refine at_idx ?_); refine w_didx Try.enBlk.elS _ _ k rfl rfl rfl rfl hK.out hX hd.out ?_; intro pa u hrow hu hraw; have hone := blk_one (a := d.slot) (b := d.miner) (c := d.var) (d := d.parent) hu.one'; replace hrow := hide_ hrow; replace hraw := hide_ hraw; replace hu := hide_ hu)
      | ((with_reducible refine at_load ?_); refine w_pload Try.stBlk _ rfl rfl rfl hrow.out rfl ?_)
      | ((with_reducible refine at_alloc ?_); refine w_alloc Try.stBlk rfl rfl ?_; intro g2 w2 hg2 hx2 f2)
      | ((with_reducible refine at_store ?_); refine w_astore Try.stBlk _ _ (us := bRow d u) rfl rfl rfl rfl rfl f2 rfl rfl hone ?_; intro w3 hm3 f3; replace f2 : Fs w3 g2 (bRow d u) := f3; replace hx2 := hm3.after hx2 (fun i hi => by subst hi; exact hg2); replace hX := hX.trans hx2; replace ho := ho.ext hx2; clear hm3 f3 hx2 hrow)
      | ((with_reducible refine at_load ?_); refine w_aload Try.stBlk _ rfl rfl rfl f2 rfl ?_)
      | fail) <;> (try simp only [Act.put, List.setIfInBounds_toArray, List.set_cons_zero, List.set_cons_succ]))
    go_roundw
    case rel => exact ⟨k + 1, _, by go_num, hlt'.out, he.out, ho, hX⟩
    case measure => have := hlt'.out; simp [RowKit.intOf]; omega

set_option maxRecDepth 100000 in
set_option maxHeartbeats 1600000 in
theorem refPath_lt {vk vw : Value} {K : List BlkD} (hU : TrS.Uq K) : ∀ (m : Nat) (n : Int) (w : World), Recs 5 BlkR w vk K → (∀ b, TrS.get K n = some b → b.slot < (m : Int)) →
    Calls Try.prog 47 #[.agg #[vk, vw], .int .i64 n] w fun e w' => ∃ v', e = .returned v' ∧ OwnI w.heap.size w' v' (TrS.path K n) ∧ Ext w w' := by
  intro m
  induction m with
  | zero =>
    intro n w hK0 hm
    have hg : TrS.get K n = none := by
      cases hg : TrS.get K n with
      | none => rfl
      | some b => have h1 := hm b hg; have h2 := (hU.right b (TrS.get_some hg).1).s.1; omega
    have e1 := hide_ (TrS.path_none hg)
    have e2 := hide_ (show TrS.has K n = false by rw [← get_has, hg]; rfl)
    have hK := hide_ hK0
    clear hK0 hg hm
    refine calls_keep ?_
    go_enter Try.func47, Try.ntmps47
    go_wp2_with ((first
      | ((with_reducible refine at_box ?_); refine w_box _ [vk, vw] rfl rfl rfl rfl ?_; intro g1 w1 hg1 hX f1)
      | (go_at_call 34; refine (refGet_any (vw := vw) (n := n) (hK.out.ext BlkR.stays hX)).mono ?_; rintro e w4 ⟨u11, rfl, hu11, hr11, hx⟩; rw [e2.out]; have hone11 := blk_one (a := (getOr K n).slot) (b := (getOr K n).miner) (c := (getOr K n).var) (d := (getOr K n).parent) hu11.one'; replace f1 := f1.ext hx; replace hX := hX.trans hx; clear hx hu11 hr11)
      | ((with_reducible refine at_alloc ?_); refine w_alloc Try.stBlk rfl rfl ?_; intro g5 w2 hg5 hx2 f5)
      | ((with_reducible refine at_store ?_); refine w_astore Try.stBlk _ _ (us := bRow (getOr K n) u11) rfl rfl rfl rfl rfl f5 rfl rfl hone11 ?_; intro w3 hm3 f6; replace hx2 := hm3.after hx2 (fun i hi => by subst hi; exact hg5); replace f5 : Fs w3 g5 (bRow (getOr K n) u11) := f6; replace hX := hX.trans hx2; replace f1 := f1.ext hx2; clear hm3 f6 hx2 hg5)
      | ((with_reducible refine at_load ?_); refine w_aload Try.stDoc _ rfl rfl rfl f1 rfl ?_)
      | ((with_reducible refine at_lit ?_); refine w_new Try.elI (i64s []) rfl rfl rfl (i64s_cells _) rfl (by omega) ?_; intro v3 w5 hx3 o3; replace o3 : OwnI _ w5 v3 [] := o3; replace o3 := hide_ (own_mono o3 hX.size); replace hX := hX.trans hx3; clear hx3)
      | fail) <;> (try simp only [Act.put, List.setIfInBounds_toArray, List.set_cons_zero, List.set_cons_succ]))
    go_ret
    exact Keep.intro ⟨_, rfl, by rw [e1.out]; exact o3.out, hX⟩
  | succ m ih =>
    intro n w hK0 hm
    cases hg : TrS.get K n with
    | none =>
      have e1 := hide_ (TrS.path_none hg)
      have e2 := hide_ (show TrS.has K n = false by rw [← get_has, hg]; rfl)
      have hK := hide_ hK0
      clear hK0 hg hm ih
      refine calls_keep ?_
      go_enter Try.func47, Try.ntmps47
      go_wp2_with ((first
        | ((with_reducible refine at_box ?_); refine w_box _ [vk, vw] rfl rfl rfl rfl ?_; intro g1 w1 hg1 hX f1)
        | (go_at_call 34; refine (refGet_any (vw := vw) (n := n) (hK.out.ext BlkR.stays hX)).mono ?_; rintro e w4 ⟨u11, rfl, hu11, hr11, hx⟩; rw [e2.out]; have hone11 := blk_one (a := (getOr K n).slot) (b := (getOr K n).miner) (c := (getOr K n).var) (d := (getOr K n).parent) hu11.one'; replace f1 := f1.ext hx; replace hX := hX.trans hx; clear hx hu11 hr11)
        | ((with_reducible refine at_alloc ?_); refine w_alloc Try.stBlk rfl rfl ?_; intro g5 w2 hg5 hx2 f5)
        | ((with_reducible refine at_store ?_); refine w_astore Try.stBlk _ _ (us := bRow (getOr K n) u11) rfl rfl rfl rfl rfl f5 rfl rfl hone11 ?_; intro w3 hm3 f6; replace hx2 := hm3.after hx2 (fun i hi => by subst hi; exact hg5); replace f5 : Fs w3 g5 (bRow (getOr K n) u11) := f6; replace hX := hX.trans hx2; replace f1 := f1.ext hx2; clear hm3 f6 hx2 hg5)
        | ((with_reducible refine at_load ?_); refine w_aload Try.stDoc _ rfl rfl rfl f1 rfl ?_)
        | ((with_reducible refine at_lit ?_); refine w_new Try.elI (i64s []) rfl rfl rfl (i64s_cells _) rfl (by omega) ?_; intro v3 w5 hx3 o3; replace o3 : OwnI _ w5 v3 [] := o3; replace o3 := hide_ (own_mono o3 hX.size); replace hX := hX.trans hx3; clear hx3)
        | fail) <;> (try simp only [Act.put, List.setIfInBounds_toArray, List.set_cons_zero, List.set_cons_succ]))
      go_ret
      exact Keep.intro ⟨_, rfl, by rw [e1.out]; exact o3.out, hX⟩
    | some b =>
      obtain ⟨hb, hbn⟩ := TrS.get_some hg
      have hbs := hm b hg
      have e0 := hide_ (show getOr K n = b by rw [getOr, hg]; rfl)
      have e2 := hide_ (show TrS.has K n = true by rw [← get_has, hg]; rfl)
      have e1 := hide_ (show TrS.path K n = TrS.path K b.parent ++ [n] by rw [← hbn]; exact hU.path hb)
      have hpl := hide_ (show ((TrS.path K b.parent).length + [n].length) * 8 ≤ 140737488355328 by have := path_len K b.parent; simp; omega)
      have hrec := hide_ (fun w' (h : Recs 5 BlkR w' vk K) => ih b.parent w' h fun c hc => by
        obtain ⟨h1, h2⟩ := TrS.get_some hc
        have := hU.slot_lt hb h1 h2
        omega)
      have hK := hide_ hK0
      clear hK0 hg hm ih hb hbn hbs
      refine calls_keep ?_
      go_enter Try.func47, Try.ntmps47
      go_wp2_with ((first
        | ((with_reducible refine at_box ?_); refine w_box _ [vk, vw] rfl rfl rfl rfl ?_; intro g1 w1 hg1 hX f1)
        | (go_at_call 34; refine (refGet_any (vw := vw) (n := n) (hK.out.ext BlkR.stays hX)).mono ?_; rintro e w4 ⟨u11, rfl, hu11, hr11, hx⟩; rw [e2.out]; rw [e0.out] at hu11 ⊢; have hone11 := blk_one (a := b.slot) (b := b.miner) (c := b.var) (d := b.parent) hu11.one'; replace f1 := f1.ext hx; replace hX := hX.trans hx; clear hx hu11 hr11)
        | ((with_reducible refine at_alloc ?_); refine w_alloc Try.stBlk rfl rfl ?_; intro g5 w2 hg5 hx2 f5)
        | ((with_reducible refine at_store ?_); refine w_astore Try.stBlk _ _ (us := bRow b u11) rfl rfl rfl rfl rfl f5 rfl rfl hone11 ?_; intro w3 hm3 f6; replace hx2 := hm3.after hx2 (fun i hi => by subst hi; exact hg5); replace f5 : Fs w3 g5 (bRow b u11) := f6; replace hX := hX.trans hx2; replace f1 := f1.ext hx2; clear hm3 f6 hx2 hg5)
        | ((with_reducible refine at_load ?_); refine w_aload Try.stDoc _ rfl rfl rfl f1 rfl ?_)
        | ((with_reducible refine at_field ?_); refine w_field Try.stBlk _ _ _ rfl rfl rfl (by omega) ?_)
        | ((with_reducible refine at_load ?_); refine w_fload _ rfl rfl rfl f5 rfl (agg_of (by kernel_rfl)) ?_)
        | (go_at_call 47; refine (hrec.out _ (hK.out.ext BlkR.stays hX)).mono ?_; rintro e w4 ⟨v19, rfl, o19, hx⟩; replace o19 := own_mono o19 hX.size; replace hX := hX.trans hx; clear hx f5)
        | ((with_reducible refine at_lit ?_); refine w_new Try.elI (i64s [n]) rfl rfl rfl (i64s_cells _) rfl (by omega) ?_; intro v3 w5 hx3 o3; replace o3 : OwnI _ w5 v3 [n] := o3; replace o19 := own_ext o19 hx3; replace hX := hX.trans hx3; clear hx3)
        | ((with_reducible refine at_bi ?_); refine appi _ _ rfl rfl rfl rfl o19 o3.ints hpl.out hX.size ?_; intro v9 w9 o9 hb9 hg9 hg9'; replace hX := hX.trans' hb9; replace o9 := hide_ o9; clear hb9 hg9 hg9' o19 o3)
        | fail) <;> (try simp only [Act.put, List.setIfInBounds_toArray, List.set_cons_zero, List.set_cons_succ]))
      go_ret
      exact Keep.intro ⟨_, rfl, by rw [e1.out]; exact o9.out, hX⟩
theorem refPath_any {w : World} {vk vw : Value} {K : List BlkD} {n : Int} (hU : TrS.Uq K) (hK : Recs 5 BlkR w vk K) :
    Calls Try.prog 47 #[.agg #[vk, vw], .int .i64 n] w fun e w' => ∃ v', e = .returned v' ∧ OwnI w.heap.size w' v' (TrS.path K n) ∧ Ext w w' :=
  refPath_lt hU 4096 n w hK fun b hb => by have := (hU.right b (TrS.get_some hb).1).s.2; omega

set_option maxRecDepth 100000 in
set_option maxHeartbeats 1600000 in
theorem refHeight_any {w : World} {vk vw : Value} {K : List BlkD} {n : Int} (hU : TrS.Uq K) (hK0 : Recs 5 BlkR w vk K) :
    Calls Try.prog 65 #[.agg #[vk, vw], .int .i64 n] w fun e w' => e = .returned (.int .i64 (TrS.height K n)) ∧ Ext w w' := by
  refine calls_keep ?_
  have hK := hide_ hK0
  clear hK0
  by_cases h0 : n = 0
  · have c1 : (n == 0) = true := by simpa using h0
    have e := hide_ (show TrS.height K n = 0 by rw [h0]; exact TrS.height_zero K)
    clear h0
    go_enter Try.func65, Try.ntmps65
    go_wp2_with ((first
      | ((with_reducible refine at_box ?_); refine w_box _ [vk, vw] rfl rfl rfl rfl ?_; intro g1 w1 hg1 hX f1)
      | fail) <;> (try simp only [Act.put, List.setIfInBounds_toArray, List.set_cons_zero, List.set_cons_succ]))
    go_ret
    exact Keep.intro ⟨by rw [e.out]; rfl, hX⟩
  have c1 : (n == 0) = false := by simpa using h0
  cases hg : TrS.get K n with
  | none =>
    have e := hide_ (show TrS.height K n = -1 by unfold TrS.height; rw [if_neg h0, hg]; rfl)
    have e2 := hide_ (show TrS.has K n = false by rw [← get_has, hg]; rfl)
    clear h0 hg
    go_enter Try.func65, Try.ntmps65
    go_wp2_with ((first
      | ((with_reducible refine at_box ?_); refine w_box _ [vk, vw] rfl rfl rfl rfl ?_; intro g1 w1 hg1 hX f1)
      | (go_at_call 34; refine (refGet_any (vw := vw) (n := n) (hK.out.ext BlkR.stays hX)).mono ?_; rintro e w4 ⟨u11, rfl, hu11, hr11, hx⟩; rw [e2.out]; have hone11 := blk_one (a := (getOr K n).slot) (b := (getOr K n).miner) (c := (getOr K n).var) (d := (getOr K n).parent) hu11.one'; replace f1 := f1.ext hx; replace hX := hX.trans hx; clear hx hu11 hr11)
      | ((with_reducible refine at_alloc ?_); refine w_alloc Try.stBlk rfl rfl ?_; intro g5 w2 hg5 hx2 f5)
      | ((with_reducible refine at_store ?_); refine w_astore Try.stBlk _ _ (us := bRow (getOr K n) u11) rfl rfl rfl rfl rfl f5 rfl rfl hone11 ?_; intro w3 hm3 f6; replace hx2 := hm3.after hx2 (fun i hi => by subst hi; exact hg5); replace f5 : Fs w3 g5 (bRow (getOr K n) u11) := f6; replace hX := hX.trans hx2; replace f1 := f1.ext hx2; clear hm3 f6 hx2 hg5)
      | ((with_reducible refine at_load ?_); refine w_aload Try.stDoc _ rfl rfl rfl f1 rfl ?_)
      | fail) <;> (try simp only [Act.put, List.setIfInBounds_toArray, List.set_cons_zero, List.set_cons_succ]))
    go_ret
    exact Keep.intro ⟨by rw [e.out]; rfl, hX⟩
  | some b =>
    have e := hide_ (show TrS.height K n = ((TrS.path K n).length : Nat) by unfold TrS.height; rw [if_neg h0, hg]; rfl)
    have e2 := hide_ (show TrS.has K n = true by rw [← get_has, hg]; rfl)
    clear h0 hg
    go_enter Try.func65, Try.ntmps65
    go_wp2_with ((first
      | ((with_reducible refine at_box ?_); refine w_box _ [vk, vw] rfl rfl rfl rfl ?_; intro g1 w1 hg1 hX f1)
      | (go_at_call 34; refine (refGet_any (vw := vw) (n := n) (hK.out.ext BlkR.stays hX)).mono ?_; rintro e w4 ⟨u11, rfl, hu11, hr11, hx⟩; rw [e2.out]; have hone11 := blk_one (a := (getOr K n).slot) (b := (getOr K n).miner) (c := (getOr K n).var) (d := (getOr K n).parent) hu11.one'; replace f1 := f1.ext hx; replace hX := hX.trans hx; clear hx hu11 hr11)
      | ((with_reducible refine at_alloc ?_); refine w_alloc Try.stBlk rfl rfl ?_; intro g5 w2 hg5 hx2 f5)
      | ((with_reducible refine at_store ?_); refine w_astore Try.stBlk _ _ (us := bRow (getOr K n) u11) rfl rfl rfl rfl rfl f5 rfl rfl hone11 ?_; intro w3 hm3 f6; replace hx2 := hm3.after hx2 (fun i hi => by subst hi; exact hg5); replace f5 : Fs w3 g5 (bRow (getOr K n) u11) := f6; replace hX := hX.trans hx2; replace f1 := f1.ext hx2; clear hm3 f6 hx2 hg5)
      | ((with_reducible refine at_load ?_); refine w_aload Try.stDoc _ rfl rfl rfl f1 rfl ?_)
      | (go_at_call 47; refine (refPath_any (n := n) hU (hK.out.ext BlkR.stays hX)).mono ?_; rintro e w4 ⟨v19, rfl, o19, hx⟩; replace o19 := o19.ints; replace hX := hX.trans hx; clear hx)
      | ((with_reducible refine at_bi ?_); refine i_len _ rfl rfl (v := v19) rfl o19 ?_)
      | fail) <;> (try simp only [Act.put, List.setIfInBounds_toArray, List.set_cons_zero, List.set_cons_succ]))
    go_ret
    exact Keep.intro ⟨by rw [e.out]; rfl, hX⟩
end Go.Proofs.Ytdoeoncmhaihbaa
namespace Go.Proofs.Ytdoeoncmhaihbaa
set_option maxRecDepth 100000
open Go.RowKit Go.ChangeShapes Go.WideShapes Go.ChangeAt

theorem retSl {f : FuncId} {args : Array Value} {w : World} {base : Nat} {l : List Int} (h : Calls Try.prog f args w fun e w' => ∃ v', e = .returned v' ∧ OwnI base w' v' l ∧ Ext w w') : Calls Try.prog f args w fun e w' => ∃ v', e = .returned v' ∧ Ext w w' ∧ Sp.p (.sl (i64s l)) v' w' := by
  refine h.mono ?_
  rintro e w' ⟨v', rfl, ho, hx⟩
  exact ⟨_, rfl, hx, ho.ints⟩
def wants (K V : List BlkD) (b : BlkD) : Bool := !TrS.ready K b && !TrS.has V b.parent

set_option maxRecDepth 100000 in
set_option maxHeartbeats 3200000 in
theorem refTip_any {w : World} {vk vw : Value} {K : List BlkD} (hU : TrS.Uq K) (hK0 : Recs 5 BlkR w vk K) (hlen : K.length ≤ 400) :
    Calls Try.prog 49 #[.agg #[vk, vw]] w fun e w' => e = .returned (.int .i64 (TrS.tip K)) ∧ Ext w w' := by
  refine calls_keep ?_
  have hK := hide_ hK0
  obtain ⟨N, hN⟩ : ∃ N, TrS.names K = N := ⟨_, rfl⟩
  have hNl : N.length ≤ 400 := by
    rw [← hN]
    have := rise_len_le (K.map BlkD.name)
    rw [List.length_map] at this
    exact Nat.le_trans this hlen
  have hN' := hide_ hN
  have hHt := hide_ (fun n w' (h : Ext w w') => refHeight_any (vw := vw) (n := n) hU (hK.out.ext BlkR.stays h))
  have htip := hide_ (show TrS.tip K = TrS.tipF K N 0 by rw [TrS.tip, hN])
  clear hK0 hN hU
  go_enter Try.func49, Try.ntmps49
  go_wp2_with ((first
    | ((with_reducible refine at_box ?_); refine w_box _ [vk, vw] rfl rfl rfl rfl ?_; intro g1 w1 hg1 hX f1)
    | ((with_reducible refine at_load ?_); refine w_aload Try.stDoc _ rfl rfl rfl f1 rfl ?_)
    | (go_at_call 64; refine (refNames_any (vw := vw) (hK.out.ext BlkR.stays hX) hlen).mono ?_; rintro e w4 ⟨v7, rfl, o7, hx⟩; rw [hN'.out] at o7; replace f1 := f1.ext hx; replace hX := hX.trans hx; clear hx)
    | ((with_reducible refine at_bi ?_); refine i_len _ rfl rfl (v := v7) rfl o7 ?_)
    | fail) <;> (try simp only [Act.put, List.setIfInBounds_toArray, List.set_cons_zero, List.set_cons_succ]))
  go_loopw [3, 9] (fun u3 i wr => ∃ (k : Nat) (best : Int), i = .int .i64 k ∧ k ≤ N.length ∧ u3 = .int .i64 best ∧ TrS.tipF K (N.take k) 0 = best ∧ Ext w wr ∧ Fs wr g1 [vk, vw] ∧ Ints wr v7 N) (fun _ i _ => N.length - (RowKit.intOf i).toNat)
  case atStart => exact ⟨0, 0, rfl, Nat.zero_le _, rfl, rfl, hX, f1, o7⟩
  case round =>
    clear hX o7 f1
    obtain ⟨k, best, rfl, hk, rfl, hb, hX, f1, o7⟩ := hrel
    by_cases hge : N.length ≤ k
    · obtain rfl : k = N.length := by omega
      have t2 : decide (N.length < N.length) = false := by simp
      rw [List.take_length] at hb
      have e := hide_ (show TrS.tip K = best by rw [htip.out, hb])
      clear hb hge
      go_wp2
      go_ret
      exact Keep.intro ⟨by rw [e.out]; rfl, hX⟩
    have hlt : k < N.length := by omega
    have t2 : decide (k < N.length) = true := by simpa using hlt
    obtain ⟨x, hx0⟩ : ∃ x, N[k] = x := ⟨_, rfl⟩
    have hstep := (show TrS.tipF K (N.take (k + 1)) 0 = if TrS.height K best < TrS.height K x then x else best by
      rw [List.take_add_one, List.getElem?_eq_getElem hlt, hx0, ← hb]
      unfold TrS.tipF
      rw [List.foldl_append]; rfl)
    obtain ⟨hx1, h1⟩ : ∃ h, TrS.height K x = h := ⟨_, rfl⟩
    obtain ⟨hb1, h2⟩ : ∃ h, TrS.height K best = h := ⟨_, rfl⟩
    rw [h1, h2] at hstep
    have hH1 := hide_ (h1 ▸ hHt.out x)
    have hH2 := hide_ (h2 ▸ hHt.out best)
    have hx0' := hide_ hx0
    have hlt' := hide_ hlt
    clear hge hx0 hb h1 h2
    cases c1 : decide (hb1 < hx1)
    · have hst := hide_ (hstep.trans (if_neg (of_decide_eq_false c1)))
      clear hstep
      go_wp2_with ((first
        | ((with_reducible refine at_idx ?_); refine i_idx _ _ k rfl rfl rfl o7 rfl hlt'.out ?_; intro ad had; rw [hx0'.out] at had)
        | fail) <;> (try simp only [Act.put, List.setIfInBounds_toArray, List.set_cons_zero, List.set_cons_succ]))
      refine wp_region_phx (by kernel_rfl) ?_; intro wd hxd; have F1 := f1.ext hxd
      refine Ph.rest 0 7 (by kernel_rfl) ?_
      refine LinL.step (s := (.val (.agg #[vk, vw]))) [(1, none)] rfl (by kernel_rfl) (op_runs rfl fun σ w' hx hg => ⟨_, runs_aload (ρ := σ.eval) (w := w') Try.stDoc (.tmp 1) rfl hg.1 (F1.ext hx) rfl, rfl⟩) ?_
      refine LinL.step (s := (.val (.int .i64 x))) [(5, none)] rfl (by kernel_rfl) (op_out 5 (.int .i64 x) rfl (.inl rfl) rfl) ?_
      refine LinL.step (s := (.val (.int .i64 hx1))) [(13, some 1), (14, some 0)] rfl (by kernel_rfl) (op_calls 65 #[(.tmp 13), (.tmp 14)] #[36, 3] (fun σ => #[.agg #[vk, vw], .int .i64 x]) rfl rfl (fun _ _ => rfl) fun σ w' hx hg => ⟨by have h13 : σ.tmps.getD 13 undef = .agg #[vk, vw] := hg.1; have h14 : σ.tmps.getD 14 undef = .int .i64 x := hg.2.1; simp only [List.map_toArray, List.map_cons, List.map_nil, Act.eval, h13, h14], retH (hH1.out w' (hX.trans (hxd.trans hx)))⟩) ?_
      refine LinL.step (s := (.val (.agg #[vk, vw]))) [(1, none)] rfl (by kernel_rfl) (op_runs rfl fun σ w' hx hg => ⟨_, runs_aload (ρ := σ.eval) (w := w') Try.stDoc (.tmp 1) rfl hg.1 (F1.ext hx) rfl, rfl⟩) ?_
      refine LinL.step (s := (.val (.int .i64 best))) [(3, none)] rfl (by kernel_rfl) (op_out 3 (.int .i64 best) rfl (.inl rfl) rfl) ?_
      refine LinL.step (s := (.val (.int .i64 hb1))) [(16, some 1), (17, some 0)] rfl (by kernel_rfl) (op_calls 65 #[(.tmp 16), (.tmp 17)] #[36, 3] (fun σ => #[.agg #[vk, vw], .int .i64 best]) rfl rfl (fun _ _ => rfl) fun σ w' hx hg => ⟨by have h16 : σ.tmps.getD 16 undef = .agg #[vk, vw] := hg.1; have h17 : σ.tmps.getD 17 undef = .int .i64 best := hg.2.1; simp only [List.map_toArray, List.map_cons, List.map_nil, Act.eval, h16, h17], retH (hH2.out w' (hX.trans (hxd.trans hx)))⟩) ?_
      refine LinL.step (s := (.val (.bool false))) [(15, some 3), (18, some 0)] rfl (by kernel_rfl) (op_runs rfl fun σ w' hx hg => ⟨(.bool false), by have h15 : σ.tmps.getD 15 undef = .int .i64 hx1 := hg.1; have h18 : σ.tmps.getD 18 undef = .int .i64 hb1 := hg.2.1; unfold Runs execOp; simp [Act.eval, h15, h18, go_sem, c1], rfl⟩) ?_
      intro wN hxN
      simp only [Fin', List.reverse_cons, List.reverse_nil, List.nil_append, List.cons_append, List.drop_zero, List.take_succ_cons, List.take_zero]
      simp only [Act.put, List.setIfInBounds_toArray, List.set_cons_zero, List.set_cons_succ]
      replace o7 := o7.ext (hxd.trans hxN)
      replace f1 := f1.ext (hxd.trans hxN)
      replace hX := hX.trans (hxd.trans hxN)
      clear hxd hxN F1
      go_wp2
      go_roundw
      case rel => exact ⟨k + 1, best, by go_num, hlt'.out, rfl, hst.out, hX, f1, o7⟩
      case measure => have := hlt'.out; simp [RowKit.intOf]; omega
    · have hst := hide_ (hstep.trans (if_pos (of_decide_eq_true c1)))
      clear hstep
      go_wp2_with ((first
        | ((with_reducible refine at_idx ?_); refine i_idx _ _ k rfl rfl rfl o7 rfl hlt'.out ?_; intro ad had; rw [hx0'.out] at had)
        | fail) <;> (try simp only [Act.put, List.setIfInBounds_toArray, List.set_cons_zero, List.set_cons_succ]))
      refine wp_region_phx (by kernel_rfl) ?_; intro wd hxd; have F1 := f1.ext hxd
      refine Ph.rest 0 7 (by kernel_rfl) ?_
      refine LinL.step (s := (.val (.agg #[vk, vw]))) [(1, none)] rfl (by kernel_rfl) (op_runs rfl fun σ w' hx hg => ⟨_, runs_aload (ρ := σ.eval) (w := w') Try.stDoc (.tmp 1) rfl hg.1 (F1.ext hx) rfl, rfl⟩) ?_
      refine LinL.step (s := (.val (.int .i64 x))) [(5, none)] rfl (by kernel_rfl) (op_out 5 (.int .i64 x) rfl (.inl rfl) rfl) ?_
      refine LinL.step (s := (.val (.int .i64 hx1))) [(13, some 1), (14, some 0)] rfl (by kernel_rfl) (op_calls 65 #[(.tmp 13), (.tmp 14)] #[36, 3] (fun σ => #[.agg #[vk, vw], .int .i64 x]) rfl rfl (fun _ _ => rfl) fun σ w' hx hg => ⟨by have h13 : σ.tmps.getD 13 undef = .agg #[vk, vw] := hg.1; have h14 : σ.tmps.getD 14 undef = .int .i64 x := hg.2.1; simp only [List.map_toArray, List.map_cons, List.map_nil, Act.eval, h13, h14], retH (hH1.out w' (hX.trans (hxd.trans hx)))⟩) ?_
      refine LinL.step (s := (.val (.agg #[vk, vw]))) [(1, none)] rfl (by kernel_rfl) (op_runs rfl fun σ w' hx hg => ⟨_, runs_aload (ρ := σ.eval) (w := w') Try.stDoc (.tmp 1) rfl hg.1 (F1.ext hx) rfl, rfl⟩) ?_
      refine LinL.step (s := (.val (.int .i64 best))) [(3, none)] rfl (by kernel_rfl) (op_out 3 (.int .i64 best) rfl (.inl rfl) rfl) ?_
      refine LinL.step (s := (.val (.int .i64 hb1))) [(16, some 1), (17, some 0)] rfl (by kernel_rfl) (op_calls 65 #[(.tmp 16), (.tmp 17)] #[36, 3] (fun σ => #[.agg #[vk, vw], .int .i64 best]) rfl rfl (fun _ _ => rfl) fun σ w' hx hg => ⟨by have h16 : σ.tmps.getD 16 undef = .agg #[vk, vw] := hg.1; have h17 : σ.tmps.getD 17 undef = .int .i64 best := hg.2.1; simp only [List.map_toArray, List.map_cons, List.map_nil, Act.eval, h16, h17], retH (hH2.out w' (hX.trans (hxd.trans hx)))⟩) ?_
      refine LinL.step (s := (.val (.bool true))) [(15, some 3), (18, some 0)] rfl (by kernel_rfl) (op_runs rfl fun σ w' hx hg => ⟨(.bool true), by have h15 : σ.tmps.getD 15 undef = .int .i64 hx1 := hg.1; have h18 : σ.tmps.getD 18 undef = .int .i64 hb1 := hg.2.1; unfold Runs execOp; simp [Act.eval, h15, h18, go_sem, c1], rfl⟩) ?_
      intro wN hxN
      simp only [Fin', List.reverse_cons, List.reverse_nil, List.nil_append, List.cons_append, List.drop_zero, List.take_succ_cons, List.take_zero]
      simp only [Act.put, List.setIfInBounds_toArray, List.set_cons_zero, List.set_cons_succ]
      replace o7 := o7.ext (hxd.trans hxN)
      replace f1 := f1.ext (hxd.trans hxN)
      replace hX := hX.trans (hxd.trans hxN)
      clear hxd hxN F1
      go_wp2
      go_roundw
      case rel => exact ⟨k + 1, x, by go_num, hlt'.out, rfl, hst.out, hX, f1, o7⟩
      case measure => have := hlt'.out; simp [RowKit.intOf]; omega

theorem w_ito {ops : Array Oper} {rest : List Oper} {o : Oper} {a : Act} {Q : Exit → Act → World → Prop} {w : World} {v : Value} {l : List Int} (x y' : Operand) (j : Nat) (hgd : o.guard = none) (ho : o.op = .slice 25 x none (some y') none) (hv : a.eval x = v) (h : Ints w v l) {z : Int} (hy' : a.eval y' = .int .i64 z) (hz : z = (j : Nat)) (hj : j ≤ l.length)
    (k : ∀ v', Ints w v' (l.take j) → wpList Try.prog ops Q rest (a.put o.dst v') w) : wpList Try.prog ops Q (o :: rest) a w := by
  subst hz
  refine w_to Try.elI x y' j hgd ho hv h hy' (by rw [i64s_length]; exact hj) fun v' h' => k v' ?_
  have e : i64s (l.take j) = (i64s l).take j := by simp [i64s, List.map_take]
  unfold Ints; rw [e]; exact h'

set_option maxRecDepth 100000 in
set_option maxHeartbeats 3200000 in
theorem refBack_any {w : World} {vk vw : Value} {K : List BlkD} {n steps : Int} (hU : TrS.Uq K) (hK0 : Recs 5 BlkR w vk K) :
    Calls Try.prog 48 #[.agg #[vk, vw], .int .i64 n, .int .i64 steps] w fun e w' => e = .returned (.int .i64 (backN (TrS.path K n) steps)) ∧ Ext w w' := by
  refine calls_keep ?_
  have hK := hide_ hK0
  obtain ⟨L, hL⟩ : ∃ L, TrS.path K n = L := ⟨_, rfl⟩
  have hLl : L.length ≤ 4096 := by rw [← hL]; exact path_len K n
  have hL' := hide_ hL
  rw [hL]
  clear hK0 hL
  go_enter Try.func48, Try.ntmps48
  go_wp2_with ((first
    | ((with_reducible refine at_box ?_); refine w_box _ [vk, vw] rfl rfl rfl rfl ?_; intro g1 w1 hg1 hX f1)
    | ((with_reducible refine at_load ?_); refine w_aload Try.stDoc _ rfl rfl rfl f1 rfl ?_)
    | (go_at_call 47; refine (refPath_any (vw := vw) (n := n) hU (hK.out.ext BlkR.stays hX)).mono ?_; rintro e w4 ⟨v7, rfl, o7, hx⟩; rw [hL'.out] at o7; replace o7 := o7.ints; replace hX := hX.trans hx; clear hx f1)
    | fail) <;> (try simp only [Act.put, List.setIfInBounds_toArray, List.set_cons_zero, List.set_cons_succ]))
  go_loopw [7, 8] (fun u7 i wr => ∃ k : Nat, i = .int .i64 k ∧ k ≤ L.length ∧ (k = 0 ∨ (k : Int) ≤ steps) ∧ Ints wr u7 (L.take (L.length - k)) ∧ Ext w wr) (fun _ i _ => L.length - (RowKit.intOf i).toNat)
  case atStart => exact ⟨0, rfl, Nat.zero_le _, .inl rfl, by rw [Nat.sub_zero, List.take_length]; exact o7, hX⟩
  case round =>
    clear hX o7
    obtain ⟨k, rfl, hk, hks, ho, hX⟩ := hrel
    obtain ⟨M, hM⟩ : ∃ M, L.take (L.length - k) = M := ⟨_, rfl⟩
    have hMl : M.length = L.length - k := by rw [← hM]; simp
    rw [hM] at ho
    by_cases hlt : (k : Int) < steps
    · have t1 : decide ((k : Int) < steps) = true := decide_eq_true hlt
      by_cases hpos : 0 < M.length
      · have t2 : decide ((0 : Int) < (M.length : Int)) = true := decide_eq_true (by omega)
        have he := hide_ (show M.take (M.length - 1) = L.take (L.length - (k + 1)) by rw [← hM, List.take_take]; congr 1; simp; omega)
        have hk1 := hide_ (show k + 1 ≤ L.length by omega)
        have hks' := hide_ (show ((k + 1 : Nat) : Int) ≤ steps by omega)
        clear hM hks
        go_wp2_with ((first
          | ((with_reducible refine at_bi ?_); refine i_len _ rfl rfl rfl ho ?_)
          | (refine w_yes _ _ _ rfl rfl rfl ?_; refine i_len _ rfl rfl rfl ho ?_)
          | ((with_reducible refine at_cut ?_); refine w_ito _ _ (M.length - 1) rfl rfl rfl ho rfl (by omega) (by omega) ?_; intro v26 o26; replace ho := o26; rw [he.out] at ho; clear o26)
          | fail) <;> (try simp only [Act.put, List.setIfInBounds_toArray, List.set_cons_zero, List.set_cons_succ]))
        go_roundw
        case rel => exact ⟨k + 1, by go_num, hk1.out, .inr hks'.out, ho, hX⟩
        case measure => have := hk1.out; simp [RowKit.intOf]; omega
      · have t2 : decide ((0 : Int) < (M.length : Int)) = false := decide_eq_false (by omega)
        have t3 : ((M.length : Int) == 0) = true := by rw [beq_iff_eq]; omega
        have hr := hide_ (show backN L steps = 0 by unfold backN; rw [show L.length - steps.toNat = 0 by omega]; rfl)
        clear hM hks
        go_wp2_with ((first
          | ((with_reducible refine at_bi ?_); refine i_len _ rfl rfl rfl ho ?_)
          | (refine w_yes _ _ _ rfl rfl rfl ?_; refine i_len _ rfl rfl rfl ho ?_)
          | fail) <;> (try simp only [Act.put, List.setIfInBounds_toArray, List.set_cons_zero, List.set_cons_succ]))
        go_ret
        exact Keep.intro ⟨by rw [hr.out]; rfl, hX⟩
    · have t1 : decide ((k : Int) < steps) = false := decide_eq_false hlt
      have hbk : backN L steps = (M.getLast?).getD 0 := by
        unfold backN
        rw [show L.length - steps.toNat = L.length - k by omega, hM]
      by_cases hpos : 0 < M.length
      · have t3 : ((M.length : Int) == 0) = false := by rw [beq_eq_false_iff_ne]; omega
        obtain ⟨z, hz⟩ : ∃ z, M[M.length - 1] = z := ⟨_, rfl⟩
        have hr := hide_ (show backN L steps = z by rw [hbk, List.getLast?_eq_getElem?, List.getElem?_eq_getElem (by omega), hz]; rfl)
        have hz' := hide_ hz
        have hpl := hide_ (show M.length - 1 < M.length by omega)
        clear hM hks hbk hz
        go_wp2_with ((first
          | ((with_reducible refine at_bi ?_); refine i_len _ rfl rfl rfl ho ?_)
          | ((with_reducible refine at_idx ?_); refine i_idx _ _ (M.length - 1) rfl rfl rfl ho (by simp [Act.eval]; omega) hpl.out ?_; intro ad had; rw [hz'.out] at had)
          | fail) <;> (try simp only [Act.put, List.setIfInBounds_toArray, List.set_cons_zero, List.set_cons_succ]))
        go_ret
        exact Keep.intro ⟨by rw [hr.out]; rfl, hX⟩
      · have t3 : ((M.length : Int) == 0) = true := by rw [beq_iff_eq]; omega
        have hr := hide_ (show backN L steps = 0 by rw [hbk, List.eq_nil_of_length_eq_zero (show M.length = 0 by omega)]; rfl)
        clear hM hks hbk
        go_wp2_with ((first
          | ((with_reducible refine at_bi ?_); refine i_len _ rfl rfl rfl ho ?_)
          | fail) <;> (try simp only [Act.put, List.setIfInBounds_toArray, List.set_cons_zero, List.set_cons_succ]))
        go_ret
        exact Keep.intro ⟨by rw [hr.out]; rfl, hX⟩

end Go.Proofs.Ytdoeoncmhaihbaa
