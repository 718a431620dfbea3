/- The document's tree of blocks: one more block, where it is known or waits. -/
import Derived.Test.YtdacclcaopmalaaTDc
namespace Go.Proofs.Ytdacclcaopmalaa
set_option maxRecDepth 100000
open Go.RowKit Go.ChangeShapes Go.WideShapes Go.ChangeAt

theorem ret_3 {P : Program} {t : TypeId} {n : Nat} {zs : List Value} {w : World} (E : St P t n zs) {fn : Func} {s s' s'' g : Nat} {cs : List Value} {tmps : Array Value} {v v' : Value} (hrs : fn.results = #[.cell s t, .tmp s', .tmp s'']) (hp : tmps.getD s undef = .pointer (some ⟨g, 0, none⟩)) (hv : tmps.getD s' undef = v) (hv' : tmps.getD s'' undef = v') (h : Fs w g cs) (hl : cs.length = n) :
    (results fn tmps).run P w = .ok (.tuple #[.agg cs.toArray, v, v']) w := by
  have hr := run_loadVar_agg E h hl
  rw [Array.getD_eq_getD_getElem?] at hp hv hv'
  simp only [results, hrs]
  simp [hp, hv, hv', asAddr, hr]
theorem in_has {V : List BlkD} {n : Int} : decide (n ∈ V.map BlkD.name) = TrS.has V n := by
  rw [Bool.eq_iff_iff, TrS.has_iff]; simp

set_option maxRecDepth 100000 in
set_option maxHeartbeats 1600000 in
theorem refAdd_c1 {w : World} {vk vw u : Value} {K V : List BlkD} {b : BlkD} (hK0 : Recs 5 BlkR w vk K) (hV0 : Recs 5 BlkR w vw V) (hV16 : V.length ≤ 16) (hu0 : Recs 2 TxR w u b.txs) (hraw0 : b.Raw) (hc : b.name = 0 ∨ TrS.has K b.name = true ∨ TrS.has V b.name = true) :
    Calls Try.prog 26 #[.agg #[vk, vw], .agg (bRow b u).toArray] w fun e w' => e = .returned (.tuple #[.agg #[vk, vw], .slice none 0 0, .bool false]) ∧ Ext w w' := by
  refine calls_keep ?_
  have hone := two_one hK0.one' hV0.one'
  have hK := hide_ hK0
  have hV := hide_ hV0
  have hu := hide_ hu0
  have hraw := hide_ hraw0
  obtain ⟨nm, hnm⟩ : ∃ n, b.name = n := ⟨_, rfl⟩
  rw [hnm] at hc
  obtain ⟨q, hq⟩ : ∃ q, TrS.has K nm = q := ⟨_, rfl⟩
  obtain ⟨r, hr⟩ : ∃ q, decide (nm ∈ V.map BlkD.name) = q := ⟨_, rfl⟩
  rw [hq, ← in_has, hr] at hc
  have hnm' := hide_ hnm
  have hq' := hide_ hq
  have hr' := hide_ hr
  clear hK0 hV0 hu0 hraw0 hnm hq hr
  go_enter Try.func26, Try.ntmps26
  by_cases c0 : nm = 0
  · have c1 : (nm == 0) = true := by simpa using c0
    clear hc c0
    go_wp2_with ((first
      | ((with_reducible refine at_box ?_); refine w_box _ [vk, vw] rfl rfl rfl rfl ?_; intro g2 w1 hg2 hX f2)
      | ((with_reducible refine at_box ?_); refine w_box _ (bRow b u) rfl rfl rfl rfl ?_; intro g3 w2 hg3 hx2 f3; replace f2 := f2.ext hx2; replace hX := hX.trans hx2; clear hx2)
      | ((with_reducible refine at_alloc ?_); refine w_alloc Try.stDoc rfl rfl ?_; intro g4 w2 hg4 hx2 f4; have hg24 := hide_ (show g2 ≠ g4 from fun e => by have := f2.lt; omega); replace f2 := f2.ext hx2; replace f3 := f3.ext hx2; replace hg4 := Nat.le_trans hX.size hg4; replace hX := hX.trans hx2; clear hx2)
      | (go_at_call 35; have _t := f2; refine (refBName_any (b := b) (hu.out.ext TxR.stays hX) hraw.out.parent).mono ?_; rintro e w4 ⟨rfl, hx⟩; rw [hnm'.out]; replace f2 := f2.ext hx; replace f3 := f3.ext hx; replace f4 := f4.ext hx; replace hX := hX.trans hx; clear hx)
      | (go_at_call 36; refine (refGet_any (vw := vw) (n := nm) (hK.out.ext BlkR.stays hX)).mono ?_; rintro e w4 ⟨u12, rfl, hu12, hr12, hx⟩; rw [hq'.out]; have hone12 := blk_one (a := (getOr K nm).slot) (b := (getOr K nm).miner) (c := (getOr K nm).var) (d := (getOr K nm).parent) hu12.one'; clear hr12 hu12; replace f2 := f2.ext hx; replace f3 := f3.ext hx; replace f4 := f4.ext hx; replace hX := hX.trans hx; clear hx)
      | ((with_reducible refine at_alloc ?_); refine w_alloc Try.stBlk rfl rfl ?_; intro g8 w2 hg8 hx f8)
      | ((with_reducible refine at_store ?_); refine w_astore Try.stBlk _ _ (us := bRow (getOr K nm) u12) rfl rfl rfl rfl rfl f8 rfl rfl hone12 ?_; intro w3 hm3 f9; replace hx := hm3.after hx (fun i hi => by subst hi; exact hg8); clear f9 hm3 f8 hg8 hone12; replace f2 := f2.ext hx; replace f3 := f3.ext hx; replace f4 := f4.ext hx; replace hX := hX.trans hx; clear hx)
      | ((with_reducible refine at_load ?_); (try refine w_yes _ _ _ rfl rfl rfl ?_); refine w_aload Try.stDoc _ rfl rfl rfl f2 rfl ?_)
      | ((with_reducible refine at_load ?_); (try refine w_yes _ _ _ rfl rfl rfl ?_); refine w_aload Try.stBlk _ rfl rfl rfl f3 rfl ?_)
      | ((with_reducible refine at_store ?_); refine w_astore Try.stDoc _ _ (us := [vk, vw]) rfl rfl rfl rfl rfl f4 rfl rfl hone ?_; intro w3 hm3 f9; replace f4 : Fs w3 g4 [vk, vw] := f9; replace hX := hm3.after hX (fun i hi => by subst hi; exact hg4); clear hm3 f9)
      | fail) <;> (try simp only [Act.put, List.setIfInBounds_toArray, List.set_cons_zero, List.set_cons_succ]))
    exact bodyPost_ret (ret_3 Try.stDoc rfl rfl rfl rfl f4 rfl) rfl (Keep.intro ⟨rfl, hX⟩)
  have c1 : (nm == 0) = false := by simpa using c0
  replace hc := hc.resolve_left c0
  clear c0
  cases q
  · obtain rfl : r = true := hc.resolve_left (by simp)
    clear hc
    go_wp2_with ((first
      | ((with_reducible refine at_box ?_); refine w_box _ [vk, vw] rfl rfl rfl rfl ?_; intro g2 w1 hg2 hX f2)
      | ((with_reducible refine at_box ?_); refine w_box _ (bRow b u) rfl rfl rfl rfl ?_; intro g3 w2 hg3 hx2 f3; replace f2 := f2.ext hx2; replace hX := hX.trans hx2; clear hx2)
      | ((with_reducible refine at_alloc ?_); refine w_alloc Try.stDoc rfl rfl ?_; intro g4 w2 hg4 hx2 f4; have hg24 := hide_ (show g2 ≠ g4 from fun e => by have := f2.lt; omega); replace f2 := f2.ext hx2; replace f3 := f3.ext hx2; replace hg4 := Nat.le_trans hX.size hg4; replace hX := hX.trans hx2; clear hx2)
      | (go_at_call 35; have _t := f2; refine (refBName_any (b := b) (hu.out.ext TxR.stays hX) hraw.out.parent).mono ?_; rintro e w4 ⟨rfl, hx⟩; rw [hnm'.out]; replace f2 := f2.ext hx; replace f3 := f3.ext hx; replace f4 := f4.ext hx; replace hX := hX.trans hx; clear hx)
      | (go_at_call 36; refine (refGet_any (vw := vw) (n := nm) (hK.out.ext BlkR.stays hX)).mono ?_; rintro e w4 ⟨u12, rfl, hu12, hr12, hx⟩; rw [hq'.out]; have hone12 := blk_one (a := (getOr K nm).slot) (b := (getOr K nm).miner) (c := (getOr K nm).var) (d := (getOr K nm).parent) hu12.one'; clear hr12 hu12; replace f2 := f2.ext hx; replace f3 := f3.ext hx; replace f4 := f4.ext hx; replace hX := hX.trans hx; clear hx)
      | ((with_reducible refine at_alloc ?_); refine w_alloc Try.stBlk rfl rfl ?_; intro g8 w2 hg8 hx f8)
      | ((with_reducible refine at_store ?_); refine w_astore Try.stBlk _ _ (us := bRow (getOr K nm) u12) rfl rfl rfl rfl rfl f8 rfl rfl hone12 ?_; intro w3 hm3 f9; replace hx := hm3.after hx (fun i hi => by subst hi; exact hg8); clear f9 hm3 f8 hg8 hone12; replace f2 := f2.ext hx; replace f3 := f3.ext hx; replace f4 := f4.ext hx; replace hX := hX.trans hx; clear hx)
      | (go_at_call 29; refine (refWaiting_any (vk := vk) (hV.out.ext BlkR.stays hX) hV16).mono ?_; rintro e w4 ⟨v34, rfl, o34, hx⟩; replace o34 := o34.ints; replace f2 := f2.ext hx; replace f3 := f3.ext hx; replace f4 := f4.ext hx; replace hX := hX.trans hx; clear hx)
      | (go_at_call 57; refine (refIn_any (n := nm) o34).mono ?_; rintro e w4 ⟨rfl, hx⟩; rw [hr'.out]; clear o34; replace f2 := f2.ext hx; replace f3 := f3.ext hx; replace f4 := f4.ext hx; replace hX := hX.trans hx; clear hx)
      | ((with_reducible refine at_load ?_); (try refine w_yes _ _ _ rfl rfl rfl ?_); refine w_aload Try.stDoc _ rfl rfl rfl f2 rfl ?_)
      | ((with_reducible refine at_load ?_); (try refine w_yes _ _ _ rfl rfl rfl ?_); refine w_aload Try.stBlk _ rfl rfl rfl f3 rfl ?_)
      | ((with_reducible refine at_store ?_); refine w_astore Try.stDoc _ _ (us := [vk, vw]) rfl rfl rfl rfl rfl f4 rfl rfl hone ?_; intro w3 hm3 f9; replace f4 : Fs w3 g4 [vk, vw] := f9; replace hX := hm3.after hX (fun i hi => by subst hi; exact hg4); clear hm3 f9)
      | fail) <;> (try simp only [Act.put, List.setIfInBounds_toArray, List.set_cons_zero, List.set_cons_succ]))
    exact bodyPost_ret (ret_3 Try.stDoc rfl rfl rfl rfl f4 rfl) rfl (Keep.intro ⟨rfl, hX⟩)
  · clear hc
    go_wp2_with ((first
      | ((with_reducible refine at_box ?_); refine w_box _ [vk, vw] rfl rfl rfl rfl ?_; intro g2 w1 hg2 hX f2)
      | ((with_reducible refine at_box ?_); refine w_box _ (bRow b u) rfl rfl rfl rfl ?_; intro g3 w2 hg3 hx2 f3; replace f2 := f2.ext hx2; replace hX := hX.trans hx2; clear hx2)
      | ((with_reducible refine at_alloc ?_); refine w_alloc Try.stDoc rfl rfl ?_; intro g4 w2 hg4 hx2 f4; have hg24 := hide_ (show g2 ≠ g4 from fun e => by have := f2.lt; omega); replace f2 := f2.ext hx2; replace f3 := f3.ext hx2; replace hg4 := Nat.le_trans hX.size hg4; replace hX := hX.trans hx2; clear hx2)
      | (go_at_call 35; have _t := f2; refine (refBName_any (b := b) (hu.out.ext TxR.stays hX) hraw.out.parent).mono ?_; rintro e w4 ⟨rfl, hx⟩; rw [hnm'.out]; replace f2 := f2.ext hx; replace f3 := f3.ext hx; replace f4 := f4.ext hx; replace hX := hX.trans hx; clear hx)
      | (go_at_call 36; refine (refGet_any (vw := vw) (n := nm) (hK.out.ext BlkR.stays hX)).mono ?_; rintro e w4 ⟨u12, rfl, hu12, hr12, hx⟩; rw [hq'.out]; have hone12 := blk_one (a := (getOr K nm).slot) (b := (getOr K nm).miner) (c := (getOr K nm).var) (d := (getOr K nm).parent) hu12.one'; clear hr12 hu12; replace f2 := f2.ext hx; replace f3 := f3.ext hx; replace f4 := f4.ext hx; replace hX := hX.trans hx; clear hx)
      | ((with_reducible refine at_alloc ?_); refine w_alloc Try.stBlk rfl rfl ?_; intro g8 w2 hg8 hx f8)
      | ((with_reducible refine at_store ?_); refine w_astore Try.stBlk _ _ (us := bRow (getOr K nm) u12) rfl rfl rfl rfl rfl f8 rfl rfl hone12 ?_; intro w3 hm3 f9; replace hx := hm3.after hx (fun i hi => by subst hi; exact hg8); clear f9 hm3 f8 hg8 hone12; replace f2 := f2.ext hx; replace f3 := f3.ext hx; replace f4 := f4.ext hx; replace hX := hX.trans hx; clear hx)
      | ((with_reducible refine at_load ?_); (try refine w_yes _ _ _ rfl rfl rfl ?_); refine w_aload Try.stDoc _ rfl rfl rfl f2 rfl ?_)
      | ((with_reducible refine at_load ?_); (try refine w_yes _ _ _ rfl rfl rfl ?_); refine w_aload Try.stBlk _ rfl rfl rfl f3 rfl ?_)
      | ((with_reducible refine at_store ?_); refine w_astore Try.stDoc _ _ (us := [vk, vw]) rfl rfl rfl rfl rfl f4 rfl rfl hone ?_; intro w3 hm3 f9; replace f4 : Fs w3 g4 [vk, vw] := f9; replace hX := hm3.after hX (fun i hi => by subst hi; exact hg4); clear hm3 f9)
      | fail) <;> (try simp only [Act.put, List.setIfInBounds_toArray, List.set_cons_zero, List.set_cons_succ]))
    exact bodyPost_ret (ret_3 Try.stDoc rfl rfl rfl rfl f4 rfl) rfl (Keep.intro ⟨rfl, hX⟩)

set_option maxRecDepth 100000 in
set_option maxHeartbeats 1600000 in
theorem refAdd_c3 {w : World} {vk vw u : Value} {K V : List BlkD} {b : BlkD} (hK0 : Recs 5 BlkR w vk K) (hV0 : Recs 5 BlkR w vw V) (hV16 : V.length ≤ 16) (hu0 : Recs 2 TxR w u b.txs) (hraw0 : b.Raw) (hc : ¬ (b.name = 0 ∨ TrS.has K b.name = true ∨ TrS.has V b.name = true)) (hrd : TrS.ready K b = true) (hfull : 400 ≤ K.length) :
    Calls Try.prog 26 #[.agg #[vk, vw], .agg (bRow b u).toArray] w fun e w' => e = .returned (.tuple #[.agg #[vk, vw], .slice none 0 0, .bool false]) ∧ Ext w w' := by
  refine calls_keep ?_
  have hone := two_one hK0.one' hV0.one'
  have hK := hide_ hK0
  have hV := hide_ hV0
  have hu := hide_ hu0
  have hraw := hide_ hraw0
  obtain ⟨nm, hnm⟩ : ∃ n, b.name = n := ⟨_, rfl⟩
  rw [hnm] at hc
  have c1 : (nm == 0) = false := by simpa using fun e => hc (.inl e)
  have hq : TrS.has K nm = false := by simpa using fun e => hc (.inr (.inl e))
  have hr : decide (nm ∈ V.map BlkD.name) = false := by rw [in_has]; simpa using fun e => hc (.inr (.inr e))
  have hnm' := hide_ hnm
  have hq' := hide_ hq
  have hr' := hide_ hr
  have hrd' := hide_ hrd
  clear hK0 hV0 hu0 hraw0 hnm hq hr hrd hc
  go_enter Try.func26, Try.ntmps26
  go_wp2_with ((first
    | ((with_reducible refine at_box ?_); refine w_box _ [vk, vw] rfl rfl rfl rfl ?_; intro g2 w1 hg2 hX f2)
    | ((with_reducible refine at_box ?_); refine w_box _ (bRow b u) rfl rfl rfl rfl ?_; intro g3 w2 hg3 hx2 f3; replace f2 := f2.ext hx2; replace hX := hX.trans hx2; clear hx2)
    | ((with_reducible refine at_alloc ?_); refine w_alloc Try.stDoc rfl rfl ?_; intro g4 w2 hg4 hx2 f4; have hg24 := hide_ (show g2 ≠ g4 from fun e => by have := f2.lt; omega); replace f2 := f2.ext hx2; replace f3 := f3.ext hx2; replace hg4 := Nat.le_trans hX.size hg4; replace hX := hX.trans hx2; clear hx2)
    | (go_at_call 35; have _t := f2; refine (refBName_any (b := b) (hu.out.ext TxR.stays hX) hraw.out.parent).mono ?_; rintro e w4 ⟨rfl, hx⟩; rw [hnm'.out]; replace f2 := f2.ext hx; replace f3 := f3.ext hx; replace f4 := f4.ext hx; replace hX := hX.trans hx; clear hx)
    | (go_at_call 36; refine (refGet_any (vw := vw) (n := nm) (hK.out.ext BlkR.stays hX)).mono ?_; rintro e w4 ⟨u12, rfl, hu12, hr12, hx⟩; rw [hq'.out]; have hone12 := blk_one (a := (getOr K nm).slot) (b := (getOr K nm).miner) (c := (getOr K nm).var) (d := (getOr K nm).parent) hu12.one'; clear hr12 hu12; replace f2 := f2.ext hx; replace f3 := f3.ext hx; replace f4 := f4.ext hx; replace hX := hX.trans hx; clear hx)
    | ((with_reducible refine at_alloc ?_); refine w_alloc Try.stBlk rfl rfl ?_; intro g8 w2 hg8 hx f8)
    | ((with_reducible refine at_store ?_); refine w_astore Try.stBlk _ _ (us := bRow (getOr K nm) u12) rfl rfl rfl rfl rfl f8 rfl rfl hone12 ?_; intro w3 hm3 f9; replace hx := hm3.after hx (fun i hi => by subst hi; exact hg8); clear f9 hm3 f8 hg8 hone12; replace f2 := f2.ext hx; replace f3 := f3.ext hx; replace f4 := f4.ext hx; replace hX := hX.trans hx; clear hx)
    | (go_at_call 29; refine (refWaiting_any (vk := vk) (hV.out.ext BlkR.stays hX) hV16).mono ?_; rintro e w4 ⟨v34, rfl, o34, hx⟩; replace o34 := o34.ints; replace f2 := f2.ext hx; replace f3 := f3.ext hx; replace f4 := f4.ext hx; replace hX := hX.trans hx; clear hx)
    | (go_at_call 57; refine (refIn_any (n := nm) o34).mono ?_; rintro e w4 ⟨rfl, hx⟩; rw [hr'.out]; clear o34; replace f2 := f2.ext hx; replace f3 := f3.ext hx; replace f4 := f4.ext hx; replace hX := hX.trans hx; clear hx)
    | (go_at_call 58; refine (refReady_any (b := b) (hK.out.ext BlkR.stays hX) hu.out.one').mono ?_; rintro e w4 ⟨rfl, hx⟩; rw [hrd'.out]; replace f2 := f2.ext hx; replace f3 := f3.ext hx; replace f4 := f4.ext hx; replace hX := hX.trans hx; clear hx)
    | (go_at_call 59; refine (refGrow_no (b := b) (u := u) (hK.out.ext BlkR.stays hX) hV.out.one' hfull).mono ?_; rintro e w4 ⟨rfl, hx⟩; replace f2 := f2.ext hx; replace f3 := f3.ext hx; replace f4 := f4.ext hx; replace hX := hX.trans hx; clear hx)
    | ((with_reducible refine at_load ?_); (try refine w_yes _ _ _ rfl rfl rfl ?_); refine w_aload Try.stDoc _ rfl rfl rfl f2 rfl ?_)
    | ((with_reducible refine at_load ?_); (try refine w_yes _ _ _ rfl rfl rfl ?_); refine w_aload Try.stBlk _ rfl rfl rfl f3 rfl ?_)
    | ((with_reducible refine at_store ?_); refine w_astore Try.stDoc _ _ (us := [vk, vw]) rfl rfl rfl rfl rfl f2 rfl rfl hone ?_; intro w3 hm3 f9; replace f2 : Fs w3 g2 [vk, vw] := f9; replace f4 := f4.mod hm3 (fun e => hg24.out e.symm); replace hX := hm3.after hX (fun i hi => by subst hi; exact hg2); clear hm3 f9)
    | ((with_reducible refine at_store ?_); refine w_astore Try.stDoc _ _ (us := [vk, vw]) rfl rfl rfl rfl rfl f4 rfl rfl hone ?_; intro w3 hm3 f9; replace f4 : Fs w3 g4 [vk, vw] := f9; replace hX := hm3.after hX (fun i hi => by subst hi; exact hg4); clear hm3 f9)
    | fail) <;> (try simp only [Act.put, List.setIfInBounds_toArray, List.set_cons_zero, List.set_cons_succ]))
  exact bodyPost_ret (ret_3 Try.stDoc rfl rfl rfl rfl f4 rfl) rfl (Keep.intro ⟨rfl, hX⟩)

/-- v[j:], where it lies. -/
theorem w_sfromS {P : Program} {ops : Array Oper} {rest : List Oper} {o : Oper} {a : Act} {Q : Exit → Act → World → Prop} {w : World} {t e : TypeId} {n : Nat} {v : Value} {rows : List (List Value)} (E : ElS P t e n) (x y : Operand) (j : Nat) (hgd : o.guard = none) (ho : o.op = .slice t x (some y) none none) (hv : a.eval x = v) (hy : a.eval y = .int .i64 (j : Int)) (h : SlS w v n rows) (hj : j ≤ rows.length)
    (k : ∀ v', SlS w v' n (rows.drop j) → v'.ownBlock = v.ownBlock → wpList P ops Q rest (a.put o.dst v') w) : wpList P ops Q (o :: rest) a w := by
  obtain ⟨A, c, rfl, h1, h2, h3⟩ := h
  refine wpList_runs hgd (runs_sfrom E x y ho hv hy hj rfl) (k _ ⟨_, _, by rw [List.length_drop], by rw [List.length_drop]; omega, by omega, fun i row hi => ?_⟩ ?_)
  · rw [List.getElem?_drop] at hi
    obtain ⟨g1, ad, rfl, g2⟩ := h3 _ row hi
    have hjr := (List.getElem?_eq_some_iff.1 hi).1
    rw [if_neg (by omega)]
    refine ⟨g1, _, rfl, ?_⟩
    rw [add_add', show j * n + i * n = (j + i) * n from (Nat.add_mul ..).symm]
    exact g2
  · cases A with
    | none => split <;> rfl
    | some ad =>
      split
      · rfl
      · show some (ad.add (j * n)).block = some ad.block
        rw [blk_add]
theorem RowsB.drop {W0 : World} {rows : List (List Value)} {l : List BlkD} (h : RowsB W0 rows l) (j : Nat) : RowsB W0 (rows.drop j) (l.drop j) :=
  ⟨by rw [List.length_drop, List.length_drop, h.len], fun k row d hk hd => by rw [List.getElem?_drop] at hk hd; exact h.at_ _ row d hk hd⟩

set_option maxRecDepth 100000 in
set_option maxHeartbeats 3200000 in
theorem refAdd_c2 {Wr w : World} {vk vw u : Value} {K V : List BlkD} {b : BlkD} {rows : List (List Value)} (er : Ext Wr w) (hK0 : Recs 5 BlkR w vk K) (hs0 : SlS w vw 5 rows) (hB0 : RowsB Wr rows V) (hV16 : V.length ≤ 16) (hur : Recs 2 TxR Wr u b.txs) (hraw0 : b.Raw) (hc : ¬ (b.name = 0 ∨ TrS.has K b.name = true ∨ TrS.has V b.name = true)) (hrd : TrS.ready K b = false) :
    Calls Try.prog 26 #[.agg #[vk, vw], .agg (bRow b u).toArray] w fun e w' => ∃ vw' rows', e = .returned (.tuple #[.agg #[vk, vw'], .slice none 0 0, .bool true]) ∧ SlS w' vw' 5 rows' ∧ RowsB Wr rows' (pushQ V b) ∧ (∀ k, vw'.ownBlock = some k → w.heap.size ≤ k) ∧ Ext w w' := by
  refine calls_keep ?_
  have hV0 := hB0.recs hs0 er
  have hu0 := hur.ext TxR.stays er
  have hk1 := hK0.one'
  have hK := hide_ hK0
  have hV := hide_ hV0
  have hu := hide_ hu0
  have hraw := hide_ hraw0
  have hrl0 := hB0.len
  have hrr0 := hB0.at_
  have hs := hide_ hs0
  have hrone := hide_ hB0.one
  have hBn := hide_ (show RowsB Wr (rows ++ [bRow b u]) (V ++ [b]) from ⟨by simp [hrl0], rows_snoc hrl0 hrr0 (Ext.refl _) hur hraw0⟩)
  have honeb := hide_ (blk_one (a := b.slot) (b := b.miner) (c := b.var) (d := b.parent) hu0.one')
  have hb1 := hide_ (show (([] : List (List Value)).length + rows.length) * 56 ≤ 140737488355328 by simp; omega)
  have hb2 := hide_ (show (rows.length + [bRow b u].length) * 56 ≤ 140737488355328 by simp; omega)
  obtain ⟨n1, hn1⟩ : ∃ n, (V ++ [b]).length = n := ⟨_, rfl⟩
  have hn1' := hide_ hn1
  have hr1 := hide_ (show 1 ≤ (rows ++ [bRow b u]).length by simp)
  obtain ⟨nm, hnm⟩ : ∃ n, b.name = n := ⟨_, rfl⟩
  rw [hnm] at hc
  have c1 : (nm == 0) = false := by simpa using fun e => hc (.inl e)
  have hq : TrS.has K nm = false := by simpa using fun e => hc (.inr (.inl e))
  have hr : decide (nm ∈ V.map BlkD.name) = false := by rw [in_has]; simpa using fun e => hc (.inr (.inr e))
  have hnm' := hide_ hnm
  have hq' := hide_ hq
  have hr' := hide_ hr
  have hrd' := hide_ hrd
  have hpq : ∀ (P : List BlkD → Prop), (16 < n1 → P ((V ++ [b]).drop 1)) → (¬ 16 < n1 → P (V ++ [b])) → P (pushQ V b) := by
    intro P h1 h2
    unfold pushQ
    rw [hn1]
    split
    · rename_i h; exact h1 h
    · rename_i h; exact h2 h
  have hpq' := hide_ hpq
  clear hK0 hV0 hu0 hur hraw0 hnm hq hr hrd hc hs0 hrl0 hrr0 hB0 hn1 hpq
  have tokA : True := trivial
  go_enter Try.func26, Try.ntmps26
  by_cases hbig : 16 < n1
  · have t1 : decide ((16 : Int) < (n1 : Int)) = true := decide_eq_true (by omega)
    go_wp2_with ((first
      | ((with_reducible refine at_box ?_); refine w_box _ [vk, vw] rfl rfl rfl rfl ?_; intro g2 w1 hg2 hX f2)
      | ((with_reducible refine at_box ?_); refine w_box _ (bRow b u) rfl rfl rfl rfl ?_; intro g3 w2 hg3 hx2 f3; replace f2 := f2.ext hx2; replace hX := hX.trans hx2; clear hx2)
      | ((with_reducible refine at_alloc ?_); refine w_alloc Try.stDoc rfl rfl ?_; intro g4 w2 hg4 hx2 f4; have hg24 := hide_ (show g2 ≠ g4 from fun e => by have := f2.lt; omega); replace f2 := f2.ext hx2; replace f3 := f3.ext hx2; replace hg4 := Nat.le_trans hX.size hg4; replace hX := hX.trans hx2; clear hx2)
      | (go_at_call 35; have _t := f2; refine (refBName_any (b := b) (hu.out.ext TxR.stays hX) hraw.out.parent).mono ?_; rintro e w4 ⟨rfl, hx⟩; rw [hnm'.out]; replace f2 := f2.ext hx; replace f3 := f3.ext hx; replace f4 := f4.ext hx; replace hX := hX.trans hx; clear hx)
      | (go_at_call 36; refine (refGet_any (vw := vw) (n := nm) (hK.out.ext BlkR.stays hX)).mono ?_; rintro e w4 ⟨u12, rfl, hu12, hr12, hx⟩; rw [hq'.out]; have hone12 := blk_one (a := (getOr K nm).slot) (b := (getOr K nm).miner) (c := (getOr K nm).var) (d := (getOr K nm).parent) hu12.one'; clear hr12 hu12; replace f2 := f2.ext hx; replace f3 := f3.ext hx; replace f4 := f4.ext hx; replace hX := hX.trans hx; clear hx)
      | ((with_reducible refine at_alloc ?_); refine w_alloc Try.stBlk rfl rfl ?_; intro g8 w2 hg8 hx f8)
      | ((with_reducible refine at_store ?_); refine w_astore Try.stBlk _ _ (us := bRow (getOr K nm) u12) rfl rfl rfl rfl rfl f8 rfl rfl hone12 ?_; intro w3 hm3 f9; replace hx := hm3.after hx (fun i hi => by subst hi; exact hg8); clear f9 hm3 f8 hg8 hone12; replace f2 := f2.ext hx; replace f3 := f3.ext hx; replace f4 := f4.ext hx; replace hX := hX.trans hx; clear hx)
      | (go_at_call 29; refine (refWaiting_any (vk := vk) (hV.out.ext BlkR.stays hX) hV16).mono ?_; rintro e w4 ⟨v34, rfl, o34, hx⟩; replace o34 := o34.ints; replace f2 := f2.ext hx; replace f3 := f3.ext hx; replace f4 := f4.ext hx; replace hX := hX.trans hx; clear hx)
      | (go_at_call 57; refine (refIn_any (n := nm) o34).mono ?_; rintro e w4 ⟨rfl, hx⟩; rw [hr'.out]; clear o34; replace f2 := f2.ext hx; replace f3 := f3.ext hx; replace f4 := f4.ext hx; replace hX := hX.trans hx; clear hx)
      | (go_at_call 58; refine (refReady_any (b := b) (hK.out.ext BlkR.stays hX) hu.out.one').mono ?_; rintro e w4 ⟨rfl, hx⟩; rw [hrd'.out]; replace f2 := f2.ext hx; replace f3 := f3.ext hx; replace f4 := f4.ext hx; replace hX := hX.trans hx; clear hx)
      | ((with_reducible refine at_lit ?_); have _t := tokA; refine w_nnew Try.enBlk [] rfl rfl rfl (by simp) rfl (by omega) ?_; intro v43 w5 B hB1 hB2 hx r43; have hg2' := Nat.not_le.2 (Nat.lt_of_lt_of_le f2.lt hB1); have hg3' := Nat.not_le.2 (Nat.lt_of_lt_of_le f3.lt hB1); have hg4' := Nat.not_le.2 (Nat.lt_of_lt_of_le f4.lt hB1); have hBw := Nat.le_trans hX.size hB1; clear tokA hB1; replace f2 := f2.ext hx; replace f3 := f3.ext hx; replace f4 := f4.ext hx; replace hX := hX.trans hx; clear hx)
      | ((with_reducible refine at_bi ?_); refine w_napp0 Try.enBlk _ _ rfl rfl rfl rfl r43 (hs.out.ext hX) hrone.out hb1.out ?_; intro v46 w7 hm7 r46; replace hm7 := hm7.mono (G := fun k => B ≤ k) (fun k _ h => And.left h); replace f2 := f2.mod hm7 hg2'; replace f3 := f3.mod hm7 hg3'; replace f4 := f4.mod hm7 hg4'; replace hX := hm7.after hX (fun i hi => Nat.le_trans hBw hi); replace r46 : RowN (fun k => B ≤ k) w7 _ 5 v46 rows := r46.mono (fun k hk => Or.elim hk (fun h => And.left h) (fun h => Nat.le_trans hB2 (And.left h))); replace hB2 := Nat.le_trans hB2 hm7.size; clear hm7 r43)
      | ((with_reducible refine at_lit ?_); refine w_nnew Try.enBlk [bRow b u] rfl rfl rfl (by simp [bRow]) rfl (by simp) ?_; intro v49 w5 B2 hC1 hC2 hx r49; replace r46 := r46.ext hx; replace hB2 := Nat.le_trans hB2 hx.size; clear hC1 hC2; replace f2 := f2.ext hx; replace f3 := f3.ext hx; replace f4 := f4.ext hx; replace hX := hX.trans hx; clear hx)
      | ((with_reducible refine at_bi ?_); refine w_napp Try.enBlk _ _ rfl rfl rfl rfl r46 r49.slS (by simp) (fun y hy => by rw [List.mem_singleton.1 hy]; exact honeb.out) hb2.out ?_; intro v50 w9 hm9 r50; replace f2 := f2.mod hm9 hg2'; replace f4 := f4.mod hm9 hg4'; replace hX := hm9.after hX (fun i hi => Nat.le_trans hBw hi); replace r50 : RowN (fun k => B ≤ k) w9 _ 5 v50 (rows ++ [bRow b u]) := r50.mono (fun k hk => Or.elim hk (fun h => h) (fun h => Nat.le_trans hB2 (And.left h))); clear hm9 r46 r49 f3 hB2)
      | ((with_reducible refine at_bi ?_); refine w_rlen Try.enBlk.elS _ rfl rfl rfl (hBn.out.recs r50.slS (er.trans hX)) ?_; rw [hn1'.out])
      | ((with_reducible refine at_field ?_); have _t := f3; refine w_field Try.stDoc _ _ _ rfl rfl rfl (by omega) ?_)
      | ((with_reducible refine at_load ?_); (try refine w_yes _ _ _ rfl rfl rfl ?_); refine w_aload Try.stDoc _ rfl rfl rfl f2 rfl ?_)
      | ((with_reducible refine at_load ?_); refine w_fload _ rfl rfl rfl f2 rfl (agg_of (by kernel_rfl)) ?_)
      | ((with_reducible refine at_load ?_); (try refine w_yes _ _ _ rfl rfl rfl ?_); refine w_aload Try.stBlk _ rfl rfl rfl f3 rfl ?_)
      | ((with_reducible refine at_cut ?_); refine w_sfromS Try.enBlk.elS _ _ 1 rfl rfl rfl rfl r50.slS hr1.out ?_; intro v55 s55 e55; have n55 := (fun k (hk : v55.ownBlock = some k) => r50.inF k (e55 ▸ hk)); have c55 := slS_cell s55; have hone := two_one hk1 c55.2; clear r50 e55)
      | ((with_reducible refine at_field ?_); refine w_field Try.stDoc _ _ _ rfl rfl rfl (by omega) ?_)
      | ((with_reducible refine at_store ?_); refine w_fstore _ _ rfl rfl rfl rfl rfl f2 (by simp) c55.1 c55.2 (by kernel_rfl) ?_; intro w10 hm10 f10; replace f2 : Fs w10 g2 [vk, v55] := f10; replace s55 := s55.mod hm10 (fun k hk e => hg2' (e ▸ n55 k hk)); replace f4 := f4.mod hm10 (fun e => hg24.out e.symm); replace hX := hm10.after hX (fun i hi => by subst hi; exact hg2); clear hm10 f10)
      | ((with_reducible refine at_load ?_); (try refine w_yes _ _ _ rfl rfl rfl ?_); refine w_aload Try.stDoc _ rfl rfl rfl f2 rfl ?_)
      | ((with_reducible refine at_store ?_); refine w_astore Try.stDoc _ _ (us := [vk, v55]) rfl rfl rfl rfl rfl f4 rfl rfl hone ?_; intro w3 hm3 f9; replace f4 : Fs w3 g4 [vk, v55] := f9; replace s55 := s55.mod hm3 (fun k hk e => hg4' (e ▸ n55 k hk)); replace hX := hm3.after hX (fun i hi => by subst hi; exact hg4); clear hm3 f9)
      | fail) <;> (try simp only [Act.put, List.setIfInBounds_toArray, List.set_cons_zero, List.set_cons_succ]))
    exact bodyPost_ret (ret_3 Try.stDoc rfl rfl rfl rfl f4 rfl) rfl (Keep.intro ⟨v55, _, rfl, s55, hpq'.out (fun l => RowsB Wr _ l) (fun _ => hBn.out.drop 1) (fun h => absurd hbig h), fun k hk => Nat.le_trans hBw (n55 k hk), hX⟩)
  · have t1 : decide ((16 : Int) < (n1 : Int)) = false := decide_eq_false (by omega)
    go_wp2_with ((first
      | ((with_reducible refine at_box ?_); refine w_box _ [vk, vw] rfl rfl rfl rfl ?_; intro g2 w1 hg2 hX f2)
      | ((with_reducible refine at_box ?_); refine w_box _ (bRow b u) rfl rfl rfl rfl ?_; intro g3 w2 hg3 hx2 f3; replace f2 := f2.ext hx2; replace hX := hX.trans hx2; clear hx2)
      | ((with_reducible refine at_alloc ?_); refine w_alloc Try.stDoc rfl rfl ?_; intro g4 w2 hg4 hx2 f4; have hg24 := hide_ (show g2 ≠ g4 from fun e => by have := f2.lt; omega); replace f2 := f2.ext hx2; replace f3 := f3.ext hx2; replace hg4 := Nat.le_trans hX.size hg4; replace hX := hX.trans hx2; clear hx2)
      | (go_at_call 35; have _t := f2; refine (refBName_any (b := b) (hu.out.ext TxR.stays hX) hraw.out.parent).mono ?_; rintro e w4 ⟨rfl, hx⟩; rw [hnm'.out]; replace f2 := f2.ext hx; replace f3 := f3.ext hx; replace f4 := f4.ext hx; replace hX := hX.trans hx; clear hx)
      | (go_at_call 36; refine (refGet_any (vw := vw) (n := nm) (hK.out.ext BlkR.stays hX)).mono ?_; rintro e w4 ⟨u12, rfl, hu12, hr12, hx⟩; rw [hq'.out]; have hone12 := blk_one (a := (getOr K nm).slot) (b := (getOr K nm).miner) (c := (getOr K nm).var) (d := (getOr K nm).parent) hu12.one'; clear hr12 hu12; replace f2 := f2.ext hx; replace f3 := f3.ext hx; replace f4 := f4.ext hx; replace hX := hX.trans hx; clear hx)
      | ((with_reducible refine at_alloc ?_); refine w_alloc Try.stBlk rfl rfl ?_; intro g8 w2 hg8 hx f8)
      | ((with_reducible refine at_store ?_); refine w_astore Try.stBlk _ _ (us := bRow (getOr K nm) u12) rfl rfl rfl rfl rfl f8 rfl rfl hone12 ?_; intro w3 hm3 f9; replace hx := hm3.after hx (fun i hi => by subst hi; exact hg8); clear f9 hm3 f8 hg8 hone12; replace f2 := f2.ext hx; replace f3 := f3.ext hx; replace f4 := f4.ext hx; replace hX := hX.trans hx; clear hx)
      | (go_at_call 29; refine (refWaiting_any (vk := vk) (hV.out.ext BlkR.stays hX) hV16).mono ?_; rintro e w4 ⟨v34, rfl, o34, hx⟩; replace o34 := o34.ints; replace f2 := f2.ext hx; replace f3 := f3.ext hx; replace f4 := f4.ext hx; replace hX := hX.trans hx; clear hx)
      | (go_at_call 57; refine (refIn_any (n := nm) o34).mono ?_; rintro e w4 ⟨rfl, hx⟩; rw [hr'.out]; clear o34; replace f2 := f2.ext hx; replace f3 := f3.ext hx; replace f4 := f4.ext hx; replace hX := hX.trans hx; clear hx)
      | (go_at_call 58; refine (refReady_any (b := b) (hK.out.ext BlkR.stays hX) hu.out.one').mono ?_; rintro e w4 ⟨rfl, hx⟩; rw [hrd'.out]; replace f2 := f2.ext hx; replace f3 := f3.ext hx; replace f4 := f4.ext hx; replace hX := hX.trans hx; clear hx)
      | ((with_reducible refine at_lit ?_); have _t := tokA; refine w_nnew Try.enBlk [] rfl rfl rfl (by simp) rfl (by omega) ?_; intro v43 w5 B hB1 hB2 hx r43; have hg2' := Nat.not_le.2 (Nat.lt_of_lt_of_le f2.lt hB1); have hg3' := Nat.not_le.2 (Nat.lt_of_lt_of_le f3.lt hB1); have hg4' := Nat.not_le.2 (Nat.lt_of_lt_of_le f4.lt hB1); have hBw := Nat.le_trans hX.size hB1; clear tokA hB1; replace f2 := f2.ext hx; replace f3 := f3.ext hx; replace f4 := f4.ext hx; replace hX := hX.trans hx; clear hx)
      | ((with_reducible refine at_bi ?_); refine w_napp0 Try.enBlk _ _ rfl rfl rfl rfl r43 (hs.out.ext hX) hrone.out hb1.out ?_; intro v46 w7 hm7 r46; replace hm7 := hm7.mono (G := fun k => B ≤ k) (fun k _ h => And.left h); replace f2 := f2.mod hm7 hg2'; replace f3 := f3.mod hm7 hg3'; replace f4 := f4.mod hm7 hg4'; replace hX := hm7.after hX (fun i hi => Nat.le_trans hBw hi); replace r46 : RowN (fun k => B ≤ k) w7 _ 5 v46 rows := r46.mono (fun k hk => Or.elim hk (fun h => And.left h) (fun h => Nat.le_trans hB2 (And.left h))); replace hB2 := Nat.le_trans hB2 hm7.size; clear hm7 r43)
      | ((with_reducible refine at_lit ?_); refine w_nnew Try.enBlk [bRow b u] rfl rfl rfl (by simp [bRow]) rfl (by simp) ?_; intro v49 w5 B2 hC1 hC2 hx r49; replace r46 := r46.ext hx; replace hB2 := Nat.le_trans hB2 hx.size; clear hC1 hC2; replace f2 := f2.ext hx; replace f3 := f3.ext hx; replace f4 := f4.ext hx; replace hX := hX.trans hx; clear hx)
      | ((with_reducible refine at_bi ?_); refine w_napp Try.enBlk _ _ rfl rfl rfl rfl r46 r49.slS (by simp) (fun y hy => by rw [List.mem_singleton.1 hy]; exact honeb.out) hb2.out ?_; intro v50 w9 hm9 r50; replace f2 := f2.mod hm9 hg2'; replace f4 := f4.mod hm9 hg4'; replace hX := hm9.after hX (fun i hi => Nat.le_trans hBw hi); replace r50 : RowN (fun k => B ≤ k) w9 _ 5 v50 (rows ++ [bRow b u]) := r50.mono (fun k hk => Or.elim hk (fun h => h) (fun h => Nat.le_trans hB2 (And.left h))); clear hm9 r46 r49 f3 hB2)
      | ((with_reducible refine at_bi ?_); refine w_rlen Try.enBlk.elS _ rfl rfl rfl (hBn.out.recs r50.slS (er.trans hX)) ?_; rw [hn1'.out])
      | ((with_reducible refine at_field ?_); have _t := f3; refine w_field Try.stDoc _ _ _ rfl rfl rfl (by omega) ?_)
      | ((with_reducible refine at_load ?_); (try refine w_yes _ _ _ rfl rfl rfl ?_); refine w_aload Try.stDoc _ rfl rfl rfl f2 rfl ?_)
      | ((with_reducible refine at_load ?_); refine w_fload _ rfl rfl rfl f2 rfl (agg_of (by kernel_rfl)) ?_)
      | ((with_reducible refine at_load ?_); (try refine w_yes _ _ _ rfl rfl rfl ?_); refine w_aload Try.stBlk _ rfl rfl rfl f3 rfl ?_)
      | ((with_reducible refine at_field ?_); have s55 := r50.slS; have n55 := r50.inF; have c55 := slS_cell s55; have hone := two_one hk1 c55.2; refine w_field Try.stDoc _ _ _ rfl rfl rfl (by omega) ?_; clear r50)
      | ((with_reducible refine at_store ?_); refine w_fstore _ _ rfl rfl rfl rfl rfl f2 (by simp) c55.1 c55.2 (by kernel_rfl) ?_; intro w10 hm10 f10; replace f2 : Fs w10 g2 [vk, v50] := f10; replace s55 := s55.mod hm10 (fun k hk e => hg2' (e ▸ n55 k hk)); replace f4 := f4.mod hm10 (fun e => hg24.out e.symm); replace hX := hm10.after hX (fun i hi => by subst hi; exact hg2); clear hm10 f10)
      | ((with_reducible refine at_load ?_); (try refine w_yes _ _ _ rfl rfl rfl ?_); refine w_aload Try.stDoc _ rfl rfl rfl f2 rfl ?_)
      | ((with_reducible refine at_store ?_); refine w_astore Try.stDoc _ _ (us := [vk, v50]) rfl rfl rfl rfl rfl f4 rfl rfl hone ?_; intro w3 hm3 f9; replace f4 : Fs w3 g4 [vk, v50] := f9; replace s55 := s55.mod hm3 (fun k hk e => hg4' (e ▸ n55 k hk)); replace hX := hm3.after hX (fun i hi => by subst hi; exact hg4); clear hm3 f9)
      | fail) <;> (try simp only [Act.put, List.setIfInBounds_toArray, List.set_cons_zero, List.set_cons_succ]))
    exact bodyPost_ret (ret_3 Try.stDoc rfl rfl rfl rfl f4 rfl) rfl (Keep.intro ⟨v50, _, rfl, s55, hpq'.out (fun l => RowsB Wr _ l) (fun h => absurd h hbig) (fun _ => hBn.out), fun k hk => Nat.le_trans hBw (n55 k hk), hX⟩)
end Go.Proofs.Ytdacclcaopmalaa
