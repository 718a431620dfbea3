/- The document's chain: what lies where; Next, Txs, Confirmed. -/
import Derived.Test.YtdoeoncmhaihbaaCHG
import Derived.Test.YtdoeoncmhaihbaaLotR
namespace Go.Proofs.Ytdoeoncmhaihbaa
set_option maxRecDepth 100000
open Go.RowKit Go.ChangeShapes Go.WideShapes Go.ChangeAt

theorem Try.stDocC : StN Try.prog 38 5 [.slice none 0 0, .slice none 0 0, .slice none 0 0, .int .i64 0, .int .i64 0] := StN.of (by kernel_rfl) (by kernel_rfl) rfl
theorem Try.stDocT : StN Try.prog 36 2 [.slice none 0 0, .slice none 0 0] := StN.of (by kernel_rfl) (by kernel_rfl) rfl
/-- The cells of the document's chain. -/
def cRow (vk vw dv : Value) (deep slot : Int) : List Value := [vk, vw, dv, .int .i64 deep, .int .i64 slot]
theorem crow_one {vk vw dv : Value} {deep slot : Int} (h1 : vk.oneCell' = true) (h2 : vw.oneCell' = true) (h3 : dv.oneCell' = true) : ∀ u ∈ cRow vk vw dv deep slot, u.oneCell' = true := by
  intro u hu
  simp only [cRow, List.mem_cons, List.not_mem_nil, or_false] at hu
  rcases hu with rfl | rfl | rfl | rfl | rfl
  all_goals first | rfl | assumption
/-- The tree within. -/
theorem tree_at (vk vw dv : Value) (deep slot : Int) : ∀ (j : Nat) (x : Value), [vk, vw][j]? = some x → (cRow vk vw dv deep slot)[0 + j]? = some x := fun j x h => by
  match j, h with
  | 0, h => exact h
  | 1, h => exact h
  | j + 2, h => simp at h
theorem self_at {cs : List Value} : ∀ (j : Nat) (x : Value), cs[j]? = some x → cs[0 + j]? = some x := fun j x h => by rw [Nat.zero_add]; exact h
section
variable {P : Program} {ops : Array Oper} {rest : List Oper} {o : Oper} {a : Act} {Q : Exit → Act → World → Prop} {w : World} {t : TypeId} {n : Nat} {zs : List Value}
theorem run_loadVar_aggN (E : StN P t n zs) {g : Nat} {cs : List Value} (h : Fs w g cs) (hl : cs.length = n) : (loadVar t ⟨g, 0, none⟩).run P w = .ok (.agg cs.toArray) w := by
  obtain ⟨fs, hu⟩ := E.u
  obtain ⟨i0, hi, _, hs⟩ := E.info
  have hc := run_loadCells_list (P := P) w ⟨g, 0, none⟩ cs (fun j u hj => by rw [add_zero_off]; exact h.cell hj)
  rw [hl] at hc
  simp [loadVar, isAgg, run_underlying hu, sizeOf, typeInfo, hi, hs, hc]
/-- A result that is a struct in a variable. -/
theorem ret_oneN (E : StN P t n zs) {fn : Func} {s g : Nat} {cs : List Value} {tmps : Array Value} (hrs : fn.results = #[.cell s t]) (hp : tmps.getD s undef = .pointer (some ⟨g, 0, none⟩)) (h : Fs w g cs) (hl : cs.length = n) :
    (results fn tmps).run P w = .ok (.agg cs.toArray) w := by
  have hr := run_loadVar_aggN E h hl
  rw [Array.getD_eq_getD_getElem?] at hp
  simp only [results, hrs]
  simp [hp, asAddr, hr]
theorem ret_threeN (E : StN P t n zs) {fn : Func} {s s' s'' g : Nat} {cs : List Value} {tmps : Array Value} {v v' : Value} (hrs : fn.results = #[.cell s t, .tmp s', .tmp s'']) (hp : tmps.getD s undef = .pointer (some ⟨g, 0, none⟩)) (hv : tmps.getD s' undef = v) (hv' : tmps.getD s'' undef = v') (h : Fs w g cs) (hl : cs.length = n) :
    (results fn tmps).run P w = .ok (.tuple #[.agg cs.toArray, v, v']) w := by
  have hr := run_loadVar_aggN E h hl
  rw [Array.getD_eq_getD_getElem?] at hp hv hv'
  simp only [results, hrs]
  simp [hp, hv, hv', asAddr, hr]
/-- The first cells of a struct, written. -/
theorem w_astoreF (E : StN P t n zs) (x y : Operand) {g : Nat} {old us post : List Value} (hgd : o.guard = none) (ho : o.op = .store t x y) (hd : o.dst = none) (hx : a.eval x = .pointer (some ⟨g, 0, none⟩)) (hy : a.eval y = .agg us.toArray) (h : Fs w g (old ++ post)) (hl : old.length = n) (hl' : us.length = n) (h1 : ∀ u ∈ us, u.oneCell' = true)
    (k : ∀ w', Mod (fun k => k = g) w w' → Fs w' g (us ++ post) → wpList P ops Q rest a w') : wpList P ops Q (o :: rest) a w := by
  obtain ⟨i0, hi, _, hs⟩ := E.info
  refine wpList_plain hgd fun K hK => ?_
  have hr := run_storeCells_cells (P := P) g 0 us 0 w (fun j hj => by
    have hj' : j < (old ++ post).length := by rw [List.length_append]; omega
    simp [h.cell (List.getElem?_eq_getElem hj')]) (fun j _ => by simpa using h.frozen j) h1
  have hk := hK _ _ (k _ (setCells_mod us 0 w g) (by
    have := setCells_fs us 0 (pre := []) (post := post) (old := old) (w := w) (g := g) (by simpa using h) rfl (by omega)
    simpa using this))
  unfold Oper.wp execOp
  simp only [ho, hx, hy, Sem.run_bind, Instr.storeAt, storeVar, Instr.sureAddr, Sem.run_pure, Result.andThen_ok, sizeOf, typeInfo]
  simp [hi, hs, hl', Value.cells]
  simp at hr
  simp [hr, Oper.upon, hd, Act.put]
  exact hk
end
/-- A block's row as it was at a first world. -/
def BlkC (Wr : World) (_ : World) (row : List Value) (d : BlkD) : Prop := BlkR Wr row d
theorem BlkC.stays {Wr : World} : Stays (BlkC Wr) := fun _ _ _ _ h _ => h
theorem recsC {w : World} {v : Value} {l : List BlkD} (h : Recs 5 BlkR w v l) : Recs 5 (BlkC w) w v l := by
  obtain ⟨rows, h1, h2, h3⟩ := h
  exact ⟨rows, h1, h2, h3⟩
theorem w_didxC {P : Program} {ops : Array Oper} {rest : List Oper} {o : Oper} {a : Act} {Q : Exit → Act → World → Prop} {w W0 Wr : World} {t e : TypeId} {v : Value} {l : List BlkD} (E : ElS P t e 5) (x y : Operand) (i : Nat) (hgd : o.guard = none) (ho : o.op = .indexAddr t x y) (hv : a.eval x = v) (hy : a.eval y = .int .i64 i)
    (h : Recs 5 (BlkC Wr) W0 v l) (he : Ext W0 w) {d : BlkD} (hd : l[i]? = some d) (k : ∀ p u, RowAt w p (bRow d u) → Recs 2 TxR Wr u d.txs → d.Raw → wpList P ops Q rest (a.put o.dst (.pointer (some p))) w) : wpList P ops Q (o :: rest) a w := by
  have hi := (List.getElem?_eq_some_iff.1 hd).1
  have e : l[i] = d := (List.getElem?_eq_some_iff.1 hd).2
  refine w_ridx0 E x y i BlkC.stays hgd ho hv hy h he hi ?_
  rintro pa row hrow _ ⟨⟨u, rfl, hu⟩, hraw⟩
  rw [e] at hrow hu hraw
  exact k pa u (hrow.ext he) hu hraw

set_option maxRecDepth 100000 in
set_option maxHeartbeats 1600000 in
theorem refGet_at {Wr w : World} {vk vw : Value} {K : List BlkD} {n : Int} (er : Ext Wr w) (hK0 : Recs 5 (BlkC Wr) w vk K) :
    Calls Try.prog 34 #[.agg #[vk, vw], .int .i64 n] w fun e w' => ∃ u, e = .returned (.tuple #[.agg (bRow (getOr K n) u).toArray, .bool (TrS.has K n)]) ∧ Recs 2 TxR Wr u (getOr K n).txs ∧ Ext w w' := by
  refine calls_keep ?_
  have hK := hide_ hK0
  have hmax := hK0.len_le
  unfold maxLen at hmax
  clear hK0
  go_enter Try.func34, Try.ntmps34
  go_wp2_with ((first
    | ((with_reducible refine at_box ?_); refine w_box _ [vk, vw] rfl rfl rfl rfl ?_; intro g1 w1 hg1 hX f1)
    | ((with_reducible refine at_alloc ?_); refine w_alloc Try.stBlk rfl rfl ?_; intro g4 w2 hg4 hx2 f4; replace f1 := f1.ext hx2; replace hg4 := Nat.le_trans hX.size hg4; replace hX := hX.trans hx2; clear hx2)
    | ((with_reducible refine at_field ?_); (try refine w_yes _ _ _ rfl rfl rfl ?_); refine w_field Try.stDoc _ _ _ rfl rfl rfl (by omega) ?_)
    | ((with_reducible refine at_load ?_); (try refine w_yes _ _ _ rfl rfl rfl ?_); refine w_fload _ rfl rfl rfl f1 rfl (agg_of (by kernel_rfl)) ?_)
    | ((with_reducible refine at_bi ?_); refine w_rlen Try.enBlk.elS _ rfl rfl rfl (hK.out.ext BlkC.stays hX) ?_)
    | fail) <;> (try simp only [Act.put, List.setIfInBounds_toArray, List.set_cons_zero, List.set_cons_succ]))
  go_loopw [11] (fun i wr => ∃ k : Nat, i = .int .i64 k ∧ k ≤ K.length ∧ Ext w wr ∧ Fs wr g4 [.int .i64 0, .int .i64 0, .int .i64 0, .int .i64 0, .slice none 0 0] ∧ ∀ j x, j < k → K[j]? = some x → x.name ≠ n) (fun i _ => K.length - (RowKit.intOf i).toNat)
  case atStart => exact ⟨0, rfl, Nat.zero_le _, hX, f4, fun j x h => absurd h (by omega)⟩
  case round =>
    clear hX f4 f1
    obtain ⟨k, rfl, hk, hX, f4, hne⟩ := hrel
    by_cases hge : K.length ≤ k
    · obtain rfl : k = K.length := by omega
      have t2 : decide (K.length < K.length) = false := by simp
      have hg := get_nowhere hne
      have e1 := hide_ (show getOr K n = BlkD.zero by rw [getOr, hg]; rfl)
      have e2 := hide_ (show TrS.has K n = false by rw [← get_has, hg]; rfl)
      clear hne hge hg
      go_wp2_with ((first
        | ((with_reducible refine at_sbuild ?_); refine w_sbuild Try.stBlk [.int .i64 0, .int .i64 0, .int .i64 0, .int .i64 0, .slice none 0 0] rfl rfl rfl (by intro p hp; simp at hp) ?_)
        | ((with_reducible refine at_store ?_); refine w_astore Try.stBlk _ _ (us := bRow BlkD.zero (.slice none 0 0)) rfl rfl rfl rfl rfl f4 rfl rfl (blk_one rfl) ?_; intro w3 hm3 f3; replace f4 : Fs w3 g4 (bRow BlkD.zero (.slice none 0 0)) := f3; replace hX := hm3.after hX (fun i hi => by subst hi; exact hg4); clear hm3 f3)
        | fail) <;> (try simp only [Act.put, List.setIfInBounds_toArray, List.set_cons_zero, List.set_cons_succ]))
      exact bodyPost_ret (ret_two Try.stBlk rfl rfl rfl f4 rfl) rfl (Keep.intro ⟨.slice none 0 0, by rw [e1.out, e2.out]; rfl, by rw [e1.out]; exact (RowN.nil (F := fun _ => True) _ 0 2).recs rfl (by simp), hX⟩)
    have hlt : k < K.length := by omega
    have t2 : decide (k < K.length) = true := by simpa using hlt
    obtain ⟨d, hd0⟩ : ∃ d, K[k]? = some d := ⟨_, List.getElem?_eq_getElem hlt⟩
    obtain ⟨dn, hdn⟩ : ∃ dn, d.name = dn := ⟨_, rfl⟩
    have hdn' := hide_ hdn
    have hne' := hide_ hne
    have hlt' := hide_ hlt
    have hd := hide_ hd0
    clear hge hd0 hdn hne
    cases c1 : (dn == n)
    all_goals go_wp2_with ((first
      | (go_at_call 46; refine (refBName_any (b := d) (hu.ext TxR.stays (er.trans hX)) hraw.out.parent).mono ?_; rintro e w4 ⟨rfl, hx⟩; rw [hdn'.out]; replace hX := hX.trans hx; replace f4 := f4.ext hx; replace f7 := f7.ext hx; clear hx)
      | (refine w_didxC Try.enBlk.elS _ _ k rfl rfl rfl rfl hK.out hX hd.out ?_; intro pa u hrow hu hraw; have hone := blk_one (a := d.slot) (b := d.miner) (c := d.var) (d := d.parent) hu.one'; replace hrow := hide_ hrow; replace hraw := hide_ hraw)
      | ((with_reducible refine at_load ?_); refine w_pload Try.stBlk _ rfl rfl rfl hrow.out rfl ?_)
      | ((with_reducible refine at_alloc ?_); refine w_alloc Try.stBlk rfl rfl ?_; intro g7 w2 hg2 hx2 f7; have hn47 : g4 ≠ g7 := (fun e => by have := f4.lt; omega))
      | ((with_reducible refine at_store ?_); refine w_astore Try.stBlk _ _ (us := bRow d u) rfl rfl rfl rfl rfl f7 rfl rfl hone ?_; intro w3 hm3 f3; replace f7 : Fs w3 g7 (bRow d u) := f3; replace hx2 := hm3.after hx2 (fun i hi => by subst hi; exact hg2); replace hX := hX.trans hx2; replace f4 := f4.ext hx2; clear hm3 f3 hx2 hrow hg2)
      | ((with_reducible refine at_store ?_); refine w_astore Try.stBlk _ _ (us := bRow d u) rfl rfl rfl rfl rfl f4 rfl rfl hone ?_; intro w3 hm3 f3; replace f4 : Fs w3 g4 (bRow d u) := f3; replace hX := hm3.after hX (fun i hi => by subst hi; exact hg4); clear hm3 f3)
      | ((with_reducible refine at_load ?_); refine w_aload Try.stBlk _ rfl rfl rfl f7 rfl ?_)
      | fail) <;> (try simp only [Act.put, List.setIfInBounds_toArray, List.set_cons_zero, List.set_cons_succ]))
    · go_roundw
      case rel => exact ⟨k + 1, by go_num, hlt'.out, hX, f4, none_more hd.out (by rw [hdn'.out]; simpa using c1) hne'.out⟩
      case measure => have := hlt'.out; simp [RowKit.intOf]; omega
    · have hg := get_first hd.out (hdn'.out.trans (by simpa using c1)) hne'.out
      have e1 : getOr K n = d := by rw [getOr, hg]; rfl
      have e2 : TrS.has K n = true := by rw [← get_has, hg]; rfl
      exact bodyPost_ret (ret_two Try.stBlk rfl rfl rfl f4 rfl) rfl (Keep.intro ⟨u, by rw [e1, e2]; rfl, by rw [e1]; exact hu, hX⟩)


set_option maxRecDepth 100000 in
set_option maxHeartbeats 1600000 in
theorem refCNext_any {w : World} {vk vw dv : Value} {deep slot n : Int} (hone0 : ∀ u ∈ cRow vk vw dv deep slot, u.oneCell' = true) :
    Calls Try.prog 31 #[.agg (cRow vk vw dv deep slot).toArray, .int .i64 n] w fun e w' => e = .returned (.agg (cRow vk vw dv deep (max slot n)).toArray) ∧ Ext w w' := by
  refine calls_keep ?_
  have hone := hide_ hone0
  have hone2 := hide_ (show ∀ u ∈ cRow vk vw dv deep n, u.oneCell' = true from crow_one (hone0 _ (by simp [cRow])) (hone0 _ (by simp [cRow])) (hone0 _ (by simp [cRow])))
  clear hone0
  cases t1 : decide (slot < n)
  · have e : max slot n = slot := by have : ¬ slot < n := by simpa using t1
                                     omega
    rw [e]
    clear e
    go_enter Try.func31, Try.ntmps31
    go_wp2_with ((first
      | ((with_reducible refine at_box ?_); refine w_box _ (cRow vk vw dv deep slot) rfl rfl rfl rfl ?_; intro g2 w1 hg2 hX f2)
      | ((with_reducible refine at_alloc ?_); refine w_allocN Try.stDocC rfl rfl ?_; intro g4 w2 hg4 hx2 f4; have hg24 := hide_ (show ¬ g2 = g4 from fun e => by have := f2.lt; omega); replace f2 := f2.ext hx2; replace hg4 := Nat.le_trans hX.size hg4; replace hX := hX.trans hx2; clear hx2)
      | ((with_reducible refine at_field ?_); (try refine w_yes _ _ _ rfl rfl rfl ?_); refine w_fieldN (i := 3) (off := 4) (by kernel_rfl) _ _ rfl rfl rfl ?_)
      | ((with_reducible refine at_load ?_); refine w_loadN Try.stDocC (.tmp 2) (cRow vk vw dv deep slot) rfl rfl rfl f2 rfl self_at ?_)
      | ((with_reducible refine at_load ?_); (try refine w_yes _ _ _ rfl rfl rfl ?_); refine w_fload _ rfl rfl rfl f2 rfl (agg_of (by kernel_rfl)) ?_)
      | ((with_reducible refine at_store ?_); refine w_astoreN Try.stDocC _ _ (us := cRow vk vw dv deep slot) rfl rfl rfl rfl rfl f4 rfl rfl hone.out ?_; intro w3 hm3 f9; replace f4 : Fs w3 g4 (cRow vk vw dv deep slot) := f9; replace hX := hm3.after hX (fun i hi => by subst hi; exact hg4); clear hm3 f9)
      | fail) <;> (try simp only [Act.put, List.setIfInBounds_toArray, List.set_cons_zero, List.set_cons_succ]))
    exact bodyPost_ret (ret_oneN Try.stDocC rfl rfl f4 rfl) rfl (Keep.intro ⟨rfl, hX⟩)
  · have e : max slot n = n := by have : slot < n := by simpa using t1
                                  omega
    rw [e]
    clear e
    go_enter Try.func31, Try.ntmps31
    go_wp2_with ((first
      | ((with_reducible refine at_box ?_); refine w_box _ (cRow vk vw dv deep slot) rfl rfl rfl rfl ?_; intro g2 w1 hg2 hX f2)
      | ((with_reducible refine at_alloc ?_); refine w_allocN Try.stDocC rfl rfl ?_; intro g4 w2 hg4 hx2 f4; have hg24 := hide_ (show ¬ g4 = g2 from fun e => by have := f2.lt; omega); replace f2 := f2.ext hx2; replace hg4 := Nat.le_trans hX.size hg4; replace hX := hX.trans hx2; clear hx2)
      | ((with_reducible refine at_field ?_); (try refine w_yes _ _ _ rfl rfl rfl ?_); refine w_fieldN (i := 3) (off := 4) (by kernel_rfl) _ _ rfl rfl rfl ?_)
      | ((with_reducible refine at_load ?_); refine w_loadN Try.stDocC (.tmp 2) (cRow vk vw dv deep n) rfl rfl rfl f2 rfl self_at ?_)
      | ((with_reducible refine at_load ?_); (try refine w_yes _ _ _ rfl rfl rfl ?_); refine w_fload _ rfl rfl rfl f2 rfl (agg_of (by kernel_rfl)) ?_)
      | ((with_reducible refine at_store ?_); refine w_fstore _ _ (u := .int .i64 n) rfl rfl rfl rfl rfl f2 (by simp [cRow]) rfl rfl (by kernel_rfl) ?_; intro w3 hm3 f9; replace f2 : Fs w3 g2 (cRow vk vw dv deep n) := f9; replace f4 := f4.mod hm3 hg24.out; replace hX := hm3.after hX (fun i hi => by subst hi; exact hg2); clear hm3 f9)
      | ((with_reducible refine at_store ?_); refine w_astoreN Try.stDocC _ _ (us := cRow vk vw dv deep n) rfl rfl rfl rfl rfl f4 rfl rfl hone2.out ?_; intro w3 hm3 f9; replace f4 : Fs w3 g4 (cRow vk vw dv deep n) := f9; replace hX := hm3.after hX (fun i hi => by subst hi; exact hg4); clear hm3 f9)
      | fail) <;> (try simp only [Act.put, List.setIfInBounds_toArray, List.set_cons_zero, List.set_cons_succ]))
    exact bodyPost_ret (ret_oneN Try.stDocC rfl rfl f4 rfl) rfl (Keep.intro ⟨rfl, hX⟩)

set_option maxRecDepth 100000 in
set_option maxHeartbeats 1600000 in
theorem refCConf_any {w : World} {vk vw dv : Value} {deep slot : Int} {K : List BlkD} (hU : TrS.Uq K) (hK : Recs 5 BlkR w vk K) (hlen : K.length ≤ 400) :
    Calls Try.prog 36 #[.agg (cRow vk vw dv deep slot).toArray] w fun e w' => e = .returned (.int .i64 (backN (TrS.path K (TrS.tip K)) deep)) ∧ Ext w w' := by
  refine calls_keep ?_
  obtain ⟨T, hT0⟩ : ∃ T, TrS.tip K = T := ⟨_, rfl⟩
  obtain ⟨B, hB0⟩ : ∃ B, backN (TrS.path K T) deep = B := ⟨_, rfl⟩
  have hT1 := hide_ (fun w' (h : Ext w w') => hT0 ▸ refTip_any (vw := vw) hU (hK.ext BlkR.stays h) hlen)
  have hB1 := hide_ (fun w' (h : Ext w w') => hB0 ▸ refBack_any (vw := vw) (n := T) (steps := deep) hU (hK.ext BlkR.stays h))
  rw [hT0, hB0]
  clear hT0 hB0 hU hK
  go_enter Try.func36, Try.ntmps36
  go_wp2_with ((first
    | ((with_reducible refine at_box ?_); refine w_box _ (cRow vk vw dv deep slot) rfl rfl rfl rfl ?_; intro g2 w1 hg2 hX f2)
    | fail) <;> (try simp only [Act.put, List.setIfInBounds_toArray, List.set_cons_zero, List.set_cons_succ]))
  refine wp_region_phx (by kernel_rfl) ?_; intro wd hxd; have F2 := f2.ext hxd
  refine Ph.rest 0 9 (by kernel_rfl) ?_
  refine LinL.step (s := (.val (.pointer (some ⟨g2, 0, none⟩)))) [(1, none)] rfl (by kernel_rfl) (op_runs rfl fun σ w' hx hg => ⟨_, runs_fieldN (ρ := σ.eval) (w := w') (i := 0) (off := 0) (by kernel_rfl) (.tmp 1) g2 rfl hg.1, rfl⟩) ?_
  refine LinL.step (s := (.val (.agg #[vk, vw]))) [(3, some 0)] rfl (by kernel_rfl) (op_runs rfl fun σ w' hx hg => ⟨_, runs_loadN (ρ := σ.eval) (w := w') Try.stDocT (.tmp 3) (us := [vk, vw]) rfl hg.1 (F2.ext hx) rfl (tree_at _ _ _ _ _), rfl⟩) ?_
  refine LinL.step (s := (.val (.pointer (some ⟨g2, 0, none⟩)))) [(1, none)] rfl (by kernel_rfl) (op_runs rfl fun σ w' hx hg => ⟨_, runs_fieldN (ρ := σ.eval) (w := w') (i := 0) (off := 0) (by kernel_rfl) (.tmp 1) g2 rfl hg.1, rfl⟩) ?_
  refine LinL.step (s := (.val (.agg #[vk, vw]))) [(5, some 0)] rfl (by kernel_rfl) (op_runs rfl fun σ w' hx hg => ⟨_, runs_loadN (ρ := σ.eval) (w := w') Try.stDocT (.tmp 5) (us := [vk, vw]) rfl hg.1 (F2.ext hx) rfl (tree_at _ _ _ _ _), rfl⟩) ?_
  refine LinL.step (s := (.val (.int .i64 T))) [(6, some 0)] rfl (by kernel_rfl) (op_calls 49 #[(.tmp 6)] #[36] (fun σ => #[.agg #[vk, vw]]) rfl rfl (fun _ _ => rfl) fun σ w' hx hg => ⟨by have h6 : σ.tmps.getD 6 undef = .agg #[vk, vw] := hg.1; simp only [List.map_toArray, List.map_cons, List.map_nil, Act.eval, h6], retH (hT1.out w' (hX.trans (hxd.trans hx)))⟩) ?_
  refine LinL.step (s := (.val (.pointer (some ⟨g2, 3, none⟩)))) [(1, none)] rfl (by kernel_rfl) (op_runs rfl fun σ w' hx hg => ⟨_, runs_fieldN (ρ := σ.eval) (w := w') (i := 2) (off := 3) (by kernel_rfl) (.tmp 1) g2 rfl hg.1, rfl⟩) ?_
  refine LinL.step (s := (.val (.int .i64 deep))) [(8, some 0)] rfl (by kernel_rfl) (op_runs rfl fun σ w' hx hg => ⟨_, runs_fload (ρ := σ.eval) (w := w') (.tmp 8) rfl hg.1 (agg_of (by kernel_rfl) _) (F2.ext hx) rfl, rfl⟩) ?_
  refine LinL.step (s := (.val (.int .i64 B))) [(4, some 5), (7, some 2), (9, some 0)] rfl (by kernel_rfl) (op_calls 48 #[(.tmp 4), (.tmp 7), (.tmp 9)] #[36, 3, 3] (fun σ => #[.agg #[vk, vw], .int .i64 T, .int .i64 deep]) rfl rfl (fun _ _ => rfl) fun σ w' hx hg => ⟨by have h4 : σ.tmps.getD 4 undef = .agg #[vk, vw] := hg.1; have h7 : σ.tmps.getD 7 undef = .int .i64 T := hg.2.1; have h9 : σ.tmps.getD 9 undef = .int .i64 deep := hg.2.2.1; simp only [List.map_toArray, List.map_cons, List.map_nil, Act.eval, h4, h7, h9], retH (hB1.out w' (hX.trans (hxd.trans hx)))⟩) ?_
  refine LinL.step (s := (.val (.int .i64 B))) [(10, some 0)] rfl (by kernel_rfl) (op_copy 10 0 (.val (.int .i64 B)) rfl (.inr rfl) rfl) ?_
  intro wN hxN
  simp only [Fin', List.reverse_cons, List.reverse_nil, List.nil_append, List.cons_append, List.drop_zero, List.take_succ_cons, List.take_zero]
  simp only [Act.put, List.setIfInBounds_toArray, List.set_cons_zero, List.set_cons_succ]
  replace hX := hX.trans (hxd.trans hxN)
  go_wp2
  go_ret
  exact Keep.intro ⟨rfl, hX⟩

/-- While transactions are gathered: what was gathered, beside the chain's cells and a list that is read. -/
structure RT (w wr : World) (g2 : Nat) (cs : List Value) (v1 : Value) (L : List Int) (u5 : Value) (A : List Int) : Prop where
  ho : OwnI w.heap.size wr u5 A
  x : Ext w wr
  f2 : Fs wr g2 cs
  i1 : Ints wr v1 L
  sep : ∀ q, u5.ownBlock = some q → ¬ q = g2 ∧ ¬ v1.ownBlock = some q
  lt : ∀ q, v1.ownBlock = some q → q < wr.heap.size
section
variable {w wr wr' : World} {g2 : Nat} {cs : List Value} {v1 u5 v9 : Value} {L A A' : List Int}
theorem RT.ext (h : RT w wr g2 cs v1 L u5 A) (he : Ext wr wr') : RT w wr' g2 cs v1 L u5 A := ⟨h.ho.ext he, h.x.trans he, h.f2.ext he, Sl.ext h.i1 he, h.sep, fun q hq => Nat.lt_of_lt_of_le (h.lt q hq) he.size⟩
theorem RT.app (h : RT w wr g2 cs v1 L u5 A) (h9 : OwnI w.heap.size wr' v9 A') (hg : wr.grownBy wr' u5.ownBlock) (hv : v9.ownBlock = u5.ownBlock ∨ v9.ownBlock = some wr.heap.size) : RT w wr' g2 cs v1 L v9 A' := by
  have hm := Mod.grown hg
  have l2 := h.f2.lt
  refine ⟨h9, hm.after h.x (fun i hi => (own_block_lt (g := i) h.ho hi).1), h.f2.mod hm (fun e => (h.sep _ e).1 rfl), Sl.mod h.i1 hm (fun k hk e => (h.sep k e).2 hk), fun q hq => ?_, fun q hq => Nat.lt_of_lt_of_le (h.lt q hq) hm.size⟩
  rcases hv with e | e
  · exact h.sep q (e ▸ hq)
  · rw [e] at hq
    injection hq with hq
    subst hq
    exact ⟨by omega, fun e => by have := h.lt _ e; omega⟩
end

set_option maxRecDepth 100000 in
set_option maxHeartbeats 3200000 in
theorem refCTxs_any {w : World} {vk vw dv : Value} {deep slot n : Int} {K : List BlkD} (hU0 : TrS.Uq K) (hK0 : Recs 5 BlkR w vk K) :
    Calls Try.prog 35 #[.agg (cRow vk vw dv deep slot).toArray, .int .i64 n] w fun e w' => ∃ v', e = .returned v' ∧ OwnI w.heap.size w' v' (ids K n) ∧ Ext w w' := by
  refine calls_keep ?_
  have hK := hide_ hK0
  have hKC := hide_ (recsC hK0)
  have hU := hide_ hU0
  have hri := hide_ hU0.right
  obtain ⟨L, hL0⟩ : ∃ L, TrS.path K n = L := ⟨_, rfl⟩
  have hL := hide_ hL0
  have hL4 := hide_ (show L.length ≤ 4096 from by rw [← hL0]; exact path_len K n)
  rw [ids, hL0]
  clear hK0 hU0 hL0
  go_enter Try.func35, Try.ntmps35
  go_wp2_with ((first
    | ((with_reducible refine at_box ?_); refine w_box _ (cRow vk vw dv deep slot) rfl rfl rfl rfl ?_; intro g2 w1 hg2 hX f2)
    | ((with_reducible refine at_lit ?_); refine w_new Try.elI (i64s []) rfl rfl rfl (i64s_cells _) rfl (by omega) ?_; intro v5 w5 hx3 o5; have l2 := hide_ f2.lt; replace f2 := f2.ext hx3; replace o5 : OwnI _ w5 v5 [] := o5; have hs1 := hide_ hX.size; replace hX := hX.trans hx3; clear hx3)
    | ((with_reducible refine at_field ?_); (try refine w_yes _ _ _ rfl rfl rfl ?_); refine w_fieldN (i := 0) (off := 0) (by kernel_rfl) _ _ rfl rfl rfl ?_)
    | ((with_reducible refine at_load ?_); refine w_loadN Try.stDocT _ [vk, vw] rfl rfl rfl f2 rfl (tree_at _ _ _ _ _) ?_)
    | (go_at_call 47; refine (refPath_any (vw := vw) (n := n) hU.out (hK.out.ext BlkR.stays hX)).mono ?_; rintro e W1 ⟨v1, rfl, o1, hx⟩; rw [hL.out] at o1; have hR : RT w W1 g2 (cRow vk vw dv deep slot) v1 L v5 [] := ⟨(o5.mono hs1.out).ext hx, hX.trans hx, f2.ext hx, o1.ints, fun q hq => ⟨fun e => by have h1 := (own_block_lt (g := q) o5 hq).1; have h2 := l2.out; omega, fun e => by have h1 := (own_block_lt (g := q) o5 hq).2; have h2 := (own_block_lt (g := q) o1 e).1; omega⟩, fun q hq => (own_block_lt (g := q) o1 hq).2⟩; clear hx o1 o5 f2 hX)
    | ((with_reducible refine at_bi ?_); refine i_len _ rfl rfl (v := v1) rfl hR.i1 ?_)
    | fail) <;> (try simp only [Act.put, List.setIfInBounds_toArray, List.set_cons_zero, List.set_cons_succ]))
  go_loopw [5, 18] (fun u5 i wr => ∃ k : Nat, i = .int .i64 k ∧ k ≤ L.length ∧ RT w wr g2 (cRow vk vw dv deep slot) v1 L u5 (idsOf K (L.take k))) (fun _ i _ => L.length - (RowKit.intOf i).toNat)
  case atStart => exact ⟨0, rfl, Nat.zero_le _, hR⟩
  case round =>
    clear hR
    obtain ⟨k, rfl, hk, hR⟩ := hrel
    by_cases hge : L.length ≤ k
    · obtain rfl : k = L.length := by omega
      have t2 : decide (L.length < L.length) = false := by simp
      rw [List.take_length] at hR
      clear hge
      go_wp2
      go_ret
      exact Keep.intro ⟨_, rfl, hR.ho, hR.x⟩
    have hlt : k < L.length := by omega
    have t2 : decide (k < L.length) = true := by simpa using hlt
    obtain ⟨m, hm0⟩ : ∃ m, L[k] = m := ⟨_, rfl⟩
    have hm := hide_ hm0
    obtain ⟨b, hb0⟩ : ∃ b, getOr K m = b := ⟨_, rfl⟩
    have hb := hide_ hb0
    have hbl := hide_ (show b.txs.length ≤ 3 from hb0 ▸ getOr_txs hri.out m)
    obtain ⟨A, hA0⟩ : ∃ A, idsOf K (L.take k) = A := ⟨_, rfl⟩
    have hstep := hide_ (show idsOf K (L.take (k + 1)) = A ++ idl b.txs from by rw [idsOf_take (n := m) (by rw [List.getElem?_eq_getElem hlt, hm0]), hb0, hA0])
    have hAl := hide_ (show A.length ≤ 12288 from by
      have := idsOf_len hri.out (L.take k)
      rw [hA0, List.length_take] at this
      have := hL4.out; omega)
    rw [hA0] at hR
    have hlt' := hide_ hlt
    have hk4 : k ≤ 4096 := by have := hL4.out; omega
    clear hge hm0 hb0 hA0
    go_wp2_with ((first
      | ((with_reducible refine at_idx ?_); refine i_idx _ _ k rfl rfl (v := v1) rfl hR.i1 rfl hlt'.out ?_; intro ad had; rw [hm.out] at had)
      | (go_at_call 34; refine (refGet_at (vw := vw) (n := m) hR.x (hKC.out.ext BlkC.stays hR.x)).mono ?_; rintro e w5 ⟨u, rfl, r5, hx⟩; rw [hb.out] at r5; rw [hb.out]; have hone := blk_one (a := b.slot) (b := b.miner) (c := b.var) (d := b.parent) r5.one'; replace hR := hR.ext hx; clear hx)
      | ((with_reducible refine at_alloc ?_); refine w_alloc Try.stBlk rfl rfl ?_; intro g8 w2 hg2 hx2 f8)
      | ((with_reducible refine at_store ?_); refine w_astore Try.stBlk _ _ (us := bRow b u) rfl rfl rfl rfl rfl f8 rfl rfl hone ?_; intro w3 hm3 f3; replace f8 : Fs w3 g8 (bRow b u) := f3; replace hx2 := hm3.after hx2 (fun i hi => by subst hi; exact hg2); replace hR := hR.ext hx2; clear hm3 f3 hx2 hg2 hone)
      | ((with_reducible refine at_field ?_); refine w_field Try.stBlk (.tmp 8) _ _ rfl rfl rfl (by omega) ?_)
      | ((with_reducible refine at_load ?_); refine w_fload _ rfl rfl rfl f8 rfl (agg_of (by kernel_rfl)) ?_)
      | ((with_reducible refine at_field ?_); (try refine w_yes _ _ _ rfl rfl rfl ?_); refine w_fieldN (i := 0) (off := 0) (by kernel_rfl) _ _ rfl rfl rfl ?_)
      | ((with_reducible refine at_load ?_); refine w_loadN Try.stDocT _ [vk, vw] rfl rfl rfl hR.f2 rfl (tree_at _ _ _ _ _) ?_)
      | ((with_reducible refine at_bi ?_); refine w_rlen Try.elTx _ rfl rfl rfl (r5.ext TxR.stays hR.x) ?_)
      | fail) <;> (try simp only [Act.put, List.setIfInBounds_toArray, List.set_cons_zero, List.set_cons_succ]))
    go_loopw [5, 32] (fun u5 i wx => ∃ j : Nat, i = .int .i64 j ∧ j ≤ b.txs.length ∧ RT w wx g2 (cRow vk vw dv deep slot) v1 L u5 (A ++ idl (b.txs.take j))) (fun _ i _ => b.txs.length - (RowKit.intOf i).toNat)
    case atStart => exact ⟨0, rfl, Nat.zero_le _, by rw [List.take_zero]; simpa [idl] using hR⟩
    case round =>
      clear hR f8
      obtain ⟨j, rfl, hj, hR⟩ := hrel
      by_cases hge : b.txs.length ≤ j
      · obtain rfl : j = b.txs.length := by omega
        have t3 : decide (b.txs.length < b.txs.length) = false := by simp
        rw [List.take_length] at hR
        clear hge
        go_wp2
        go_roundw
        case rel => exact ⟨k + 1, by go_num, hlt'.out, by rw [hstep.out]; exact hR⟩
        case measure => have := hlt'.out; simp [RowKit.intOf]; omega
      have hjl : j < b.txs.length := by omega
      have t3 : decide (j < b.txs.length) = true := by simpa using hjl
      obtain ⟨t, ht0⟩ : ∃ t, b.txs[j]? = some t := ⟨_, List.getElem?_eq_getElem hjl⟩
      have ht := hide_ ht0
      have hst2 := hide_ (show A ++ idl (b.txs.take (j + 1)) = (A ++ idl (b.txs.take j)) ++ [t.id] from by rw [idl_take ht0, List.append_assoc])
      obtain ⟨B, hB0⟩ : ∃ B, A ++ idl (b.txs.take j) = B := ⟨_, rfl⟩
      have hBl := hide_ (show (B.length + [t.id].length) * 8 ≤ 140737488355328 from by
        rw [← hB0, List.length_append, idl, List.length_map, List.length_take]
        have := hAl.out; have := hbl.out; simp; omega)
      rw [hB0] at hR hst2
      have hj3 : j ≤ 3 := by have := hbl.out; omega
      have hjl' := hide_ hjl
      clear hge ht0 hB0
      go_wp2_with ((first
        | ((with_reducible refine at_idx ?_); refine w_tidx Try.elTx _ _ j rfl rfl rfl rfl r5 hR.x ht.out ?_; intro pa hrow; replace hrow := hide_ hrow)
        | ((with_reducible refine at_load ?_); refine w_pload Try.stTx _ rfl rfl rfl hrow.out rfl ?_)
        | ((with_reducible refine at_alloc ?_); refine w_alloc Try.stTx rfl rfl ?_; intro g11 w12 hg12 hx2 f12)
        | ((with_reducible refine at_store ?_); refine w_astore Try.stTx _ _ (us := [.int .i64 t.id, .int .i64 t.fee]) rfl rfl rfl rfl rfl f12 rfl rfl (TxD.one t) ?_; intro w13 hm3 f13; replace f12 : Fs w13 g11 [.int .i64 t.id, .int .i64 t.fee] := f13; replace hx2 := hm3.after hx2 (fun i hi => by subst hi; exact hg12); replace hR := hR.ext hx2; clear hm3 f13 hx2 hrow hg12)
        | ((with_reducible refine at_field ?_); refine w_field Try.stTx _ _ _ rfl rfl rfl (by omega) ?_)
        | ((with_reducible refine at_load ?_); refine w_fload _ rfl rfl rfl f12 rfl (agg_of (by kernel_rfl)) ?_)
        | ((with_reducible refine at_lit ?_); refine w_new Try.elI (i64s [t.id]) rfl rfl rfl (i64s_cells _) rfl (by omega) ?_; intro v3 w5 hx3 o3; replace o3 : OwnI _ w5 v3 [t.id] := o3; replace o3 := o3.ints; replace hR := hR.ext hx3; clear hx3 f12)
        | ((with_reducible refine at_bi ?_); refine appi _ _ rfl rfl rfl rfl hR.ho o3 hBl.out hR.x.size ?_; intro v9 w9 o9 hb9 hg9 hg9'; replace hR := hR.app o9 hg9 hg9'; clear hg9' hg9 hb9 o9 o3)
        | fail) <;> (try simp only [Act.put, List.setIfInBounds_toArray, List.set_cons_zero, List.set_cons_succ]))
      go_roundw
      case rel => exact ⟨j + 1, by go_num, hjl'.out, by rw [hst2.out]; exact hR⟩
      case measure => have := hjl'.out; simp [RowKit.intOf]; omega
end Go.Proofs.Ytdoeoncmhaihbaa
