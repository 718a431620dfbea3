/- The document's gate: who is bad, the block of a name, one block more. -/
import Derived.Test.YtgbhbifdfcfamaaGtB
import Derived.Test.YtgbhbifdfcfamaaRegG
import Derived.Deep.Cut
namespace Go.Proofs.Ytgbhbifdfcfamaa
set_option maxRecDepth 100000
open Go.RowKit Go.ChangeShapes Go.WideShapes Go.ChangeAt

theorem Try.stRG : St Try.prog 32 3 [.slice none 0 0, .slice none 0 0, .slice none 0 0] := St.of (by kernel_rfl) (by kernel_rfl) rfl
theorem Try.enBk : ElN Try.prog 30 46 5 56 (.agg #[.int .i64 0, .int .i64 0, .int .i64 0, .int .i64 0, .slice none 0 0]) := ElN.of Try.underlying30 (by kernel_rfl) rfl (by omega) (by omega)
/-- A gate of the document's. -/
structure RG (w : World) (vb vs vk : Value) (g : GaD) : Prop where
  bad : Ints w vb g.bad
  said : Recs 1 BytOk w vs g.said
  kn : Recs 5 BlkR w vk g.kn
theorem RG.ext {w w' : World} {vb vs vk : Value} {g : GaD} (h : RG w vb vs vk g) (he : Ext w w') : RG w' vb vs vk g := ⟨h.bad.ext he, h.said.ext BytOk.stays he, h.kn.ext BlkR.stays he⟩
theorem rowN_oneG {F : Nat → Prop} {w : World} {e : TypeId} {n : Nat} {v : Value} {rows : List (List Value)} (h : RowN F w e n v rows) : v.oneCell' = true := by
  obtain ⟨A, c, rfl, _⟩ := h.slS; rfl
theorem BlkR.oneC {w : World} {row : List Value} {d : BlkD} (h : BlkR w row d) : ∀ u ∈ row, u.oneCell' = true := by
  obtain ⟨⟨u4, rfl, hu⟩, _⟩ := h
  exact blk_one hu.oneC
/-- &l[i] of rows that are known. -/
theorem w_sidx {P : Program} {ops : Array Oper} {rest : List Oper} {o : Oper} {a : Act} {Q : Exit → Act → World → Prop} {w W0 : World} {t e : TypeId} {n : Nat} {v : Value} {rows : List (List Value)} (E : ElS P t e n) (x y : Operand) (i : Nat) (hgd : o.guard = none) (ho : o.op = .indexAddr t x y) (hv : a.eval x = v) (hy : a.eval y = .int .i64 i)
    (h : SlS W0 v n rows) (he : Ext W0 w) {row : List Value} (hd : rows[i]? = some row) (k : ∀ p, RowAt w p row → wpList P ops Q rest (a.put o.dst (.pointer (some p))) w) : wpList P ops Q (o :: rest) a w := by
  have hi := (List.getElem?_eq_some_iff.1 hd).1
  have hr : Recs n (fun _ row d => row = d) W0 v rows := ⟨rows, h, rfl, fun k a b h1 h2 => by rw [h1] at h2; injection h2⟩
  refine w_ridx0 E x y i (fun _ _ _ _ h _ => h) hgd ho hv hy hr he hi ?_
  rintro pa row' hrow _ e'
  have : row' = row := e'.trans (List.getElem?_eq_some_iff.1 hd).2
  subst this
  exact k pa (hrow.ext he)
/-- Of rows, the first with a name; or none. -/
def Fnd (rows : List (List Value)) (K : List BlkD) (n : Int) (c : BlkD) (u : Value) (q : Bool) : Prop :=
  (q = false ∧ c = BlkD.zero ∧ u = .slice none 0 0 ∧ ∀ (j : Nat) (d : BlkD), K[j]? = some d → d.name ≠ n) ∨ (q = true ∧ ∃ k, K[k]? = some c ∧ rows[k]? = some (bRw c u) ∧ c.name = n ∧ ∀ (j : Nat) (d : BlkD), j < k → K[j]? = some d → d.name ≠ n)
theorem find_at {g : GaD} {n : Int} {k : Nat} {c : BlkD} (hk : g.kn[k]? = some c) (hn : c.name = n) (hne : ∀ (j : Nat) (d : BlkD), j < k → g.kn[j]? = some d → d.name ≠ n) : g.find n = some c := by
  obtain ⟨hlt, he⟩ := List.getElem?_eq_some_iff.1 hk
  unfold GaD.find
  rw [List.find?_eq_some_iff_getElem]
  refine ⟨by simpa using hn, k, hlt, he, fun j hj => ?_⟩
  have := hne j g.kn[j] hj (List.getElem?_eq_getElem (by omega))
  simpa using this
theorem RG.fnd {w : World} {vb vs vk : Value} {g : GaD} (h : RG w vb vs vk g) (n : Int) : ∃ rows c u q, SlS w vk 5 rows ∧ rows.length = g.kn.length ∧ Fnd rows g.kn n c u q ∧ (g.find n).isSome = q ∧ Recs 2 TxR w u c.txs ∧ ∀ b, g.find n = some b → b = c := by
  obtain ⟨rows, h1, h2, h3⟩ := h.kn
  cases hf : g.find n with
  | none => exact ⟨rows, BlkD.zero, .slice none 0 0, false, h1, h2, .inl ⟨rfl, rfl, rfl, fun j d hd => GaD.find_none hf d (List.mem_of_getElem? hd)⟩, rfl, (RowN.nil (F := fun _ => True) w 0 2).recs rfl (by simp), fun b hb => nomatch hb⟩
  | some c =>
    have hf' := hf
    unfold GaD.find at hf'
    rw [List.find?_eq_some_iff_getElem] at hf'
    obtain ⟨hn, k, hlt, he, hne⟩ := hf'
    obtain ⟨⟨u, hr, hu⟩, _⟩ := h3 k _ c (List.getElem?_eq_getElem (by omega)) (by rw [List.getElem?_eq_getElem hlt, he])
    refine ⟨rows, c, u, true, h1, h2, .inr ⟨rfl, k, by rw [List.getElem?_eq_getElem hlt, he], by rw [List.getElem?_eq_getElem (by omega), hr]; rfl, by simpa using hn, fun j d hj hd => ?_⟩, rfl, hu, fun b hb => by injection hb with hb; exact hb.symm⟩
    have := hne j hj
    obtain ⟨h5, h6⟩ := List.getElem?_eq_some_iff.1 hd
    rw [h6] at this
    simpa using this
set_option maxRecDepth 100000 in
set_option maxHeartbeats 3200000 in
theorem refIs_any {w : World} {vb vs vk : Value} {l : List Int} {n : Int} (hb0 : Ints w vb l) (h1 : vs.oneCell' = true) (h2 : vk.oneCell' = true) :
    Calls Try.prog 15 #[.agg #[vb, vs, vk], .int .i64 n] w fun e w' => e = .returned (.bool (decide (n ∈ l))) ∧ Ext w w' := by
  refine calls_keep ?_
  have hb := hide_ hb0
  have hX := Ext.refl w
  have hmax : l.length ≤ 9223372036854775807 := by have := hb0.len_le; unfold maxLen at this; omega
  have h1' := hide_ h1
  have h2' := hide_ h2
  clear hb0 h1 h2
  go_enter Try.func15, Try.ntmps15
  go_wp2_with ((first
    | ((with_reducible refine at_box ?_); refine w_box _ [vb, vs, vk] rfl rfl rfl rfl ?_; intro g2 w1 hg2 hx f2; replace hg2 := Nat.le_trans hX.size hg2; replace hX := hX.trans hx; clear hx)
    | ((with_reducible refine at_field ?_); (try refine w_yes _ _ _ rfl rfl rfl ?_); refine w_field Try.stRG _ _ _ rfl rfl rfl (by omega) ?_)
    | ((with_reducible refine at_load ?_); (try refine w_yes _ _ _ rfl rfl rfl ?_); refine w_fload _ rfl rfl rfl f2 rfl (agg_of (by kernel_rfl)) ?_)
    | ((with_reducible refine at_bi ?_); (try refine w_yes _ _ _ rfl rfl rfl ?_); refine i_len _ rfl rfl (v := vb) rfl (hb.out.ext hX) ?_)
    | fail) <;> (try simp only [Act.put, List.setIfInBounds_toArray, List.set_cons_zero, List.set_cons_succ]))
  clear h1' h2'
  go_loopw [10] (fun i wr => ∃ k : Nat, i = .int .i64 k ∧ k ≤ l.length ∧ Hid (n ∉ l.take k) ∧ Ext w wr) (fun i _ => l.length - (RowKit.intOf i).toNat)
  case atStart => exact ⟨0, rfl, Nat.zero_le _, hide_ (by simp), hX⟩
  case round =>
    clear hX f2
    obtain ⟨k, rfl, hk, hnt, hX⟩ := hrel
    by_cases hge : l.length ≤ k
    · obtain rfl : k = l.length := by omega
      have t2 : decide (l.length < l.length) = false := by simp
      rw [List.take_length] at hnt
      clear hge
      go_wp2
      go_ret
      exact Keep.intro ⟨by rw [decide_eq_false hnt.out]; rfl, hX⟩
    have hlt : k < l.length := by omega
    have t2 : decide (k < l.length) = true := by simpa using hlt
    obtain ⟨x, hx0⟩ : ∃ x, l[k] = x := ⟨_, rfl⟩
    have hx := hide_ hx0
    have hlt' := hide_ hlt
    clear hge
    cases hc : (x == n)
    · have hnt2 := hide_ (not_mem_take_succ hnt.out hlt (by rw [hx0]; intro e; rw [e] at hc; simp at hc))
      clear hx0
      go_wp2_with ((first
        | ((with_reducible refine at_idx ?_); (try refine w_yes _ _ _ rfl rfl rfl ?_); refine i_idx _ _ k rfl rfl rfl (hb.out.ext hX) rfl hlt'.out ?_; intro ad had; rw [hx.out] at had)
        | fail) <;> (try simp only [Act.put, List.setIfInBounds_toArray, List.set_cons_zero, List.set_cons_succ]))
      go_roundw
      case rel => exact ⟨k + 1, by go_num, hlt'.out, hnt2, hX⟩
      case measure => have := hlt'.out; simp [RowKit.intOf]; omega
    · have hin := hide_ (show n ∈ l from by
        have : x = n := by simpa using hc
        rw [← this, ← hx0]; exact List.getElem_mem hlt)
      clear hx0
      go_wp2_with ((first
        | ((with_reducible refine at_idx ?_); (try refine w_yes _ _ _ rfl rfl rfl ?_); refine i_idx _ _ k rfl rfl rfl (hb.out.ext hX) rfl hlt'.out ?_; intro ad had; rw [hx.out] at had)
        | fail) <;> (try simp only [Act.put, List.setIfInBounds_toArray, List.set_cons_zero, List.set_cons_succ]))
      go_ret
      exact Keep.intro ⟨by rw [decide_eq_true hin.out]; rfl, hX⟩
set_option maxRecDepth 100000 in
set_option maxHeartbeats 3200000 in
theorem refFind_any {w : World} {vb vs vk : Value} {K : List BlkD} {n : Int} {rows : List (List Value)} {c : BlkD} {u1 : Value} {q : Bool} (hs0 : SlS w vk 5 rows) (hl0 : rows.length = K.length ∧ vb.oneCell' = true ∧ vs.oneCell' = true ∧ ∀ (k : Nat) (row : List Value) (d : BlkD), rows[k]? = some row → K[k]? = some d → BlkR w row d) (hf0 : Fnd rows K n c u1 q) :
    Calls Try.prog 27 #[.agg #[vb, vs, vk], .int .i64 n] w fun e w' => e = .returned (.tuple #[.agg #[.int .i64 c.slot, .int .i64 c.miner, .int .i64 c.var, .int .i64 c.parent, u1], .bool q]) ∧ Ext w w' := by
  refine calls_keep ?_
  have hs := hide_ hs0
  have hf := hide_ hf0
  have hR := hide_ hl0.2.2.2
  have hX := Ext.refl w
  have hlen := hl0.1
  have hK : Hid (Recs 5 BlkR w vk K) := hide_ ⟨rows, hs0, hl0.1, hl0.2.2.2⟩
  have hmax := hK.out.len_le
  unfold maxLen at hmax
  have hone := hide_ hl0.2
  clear hs0 hl0 hf0
  go_enter Try.func27, Try.ntmps27
  go_wp2_with ((first
    | ((with_reducible refine at_box ?_); refine w_box _ [vb, vs, vk] rfl rfl rfl rfl ?_; intro g2 w1 hg2 hx f2; replace hg2 := Nat.le_trans hX.size hg2; replace hX := hX.trans hx; clear hx)
    | ((with_reducible refine at_alloc ?_); refine w_alloc Try.stBlk rfl rfl ?_; intro g4 w2 hg4 hx f4; replace f2 := f2.ext hx; replace hg4 := Nat.le_trans hX.size hg4; replace hX := hX.trans hx; clear hx)
    | ((with_reducible refine at_field ?_); (try refine w_yes _ _ _ rfl rfl rfl ?_); refine w_field Try.stRG _ _ _ rfl rfl rfl (by omega) ?_)
    | ((with_reducible refine at_load ?_); (try refine w_yes _ _ _ rfl rfl rfl ?_); refine w_fload _ rfl rfl rfl f2 rfl (agg_of (by kernel_rfl)) ?_)
    | ((with_reducible refine at_bi ?_); refine w_rlen Try.enBk.elS _ rfl rfl rfl (hK.out.ext BlkR.stays hX) ?_)
    | fail) <;> (try simp only [Act.put, List.setIfInBounds_toArray, List.set_cons_zero, List.set_cons_succ]))
  go_loopw [11] (fun i wr => ∃ k : Nat, i = .int .i64 k ∧ k ≤ K.length ∧ Ext w wr ∧ Fs wr g4 [.int .i64 0, .int .i64 0, .int .i64 0, .int .i64 0, .slice none 0 0] ∧ ∀ (j : Nat) (x : BlkD), j < k → K[j]? = some x → x.name ≠ n) (fun i _ => K.length - (RowKit.intOf i).toNat)
  case atStart => exact ⟨0, rfl, Nat.zero_le _, hX, f4, fun j x h => absurd h (by omega)⟩
  case round =>
    clear hX f4 f2
    obtain ⟨k, rfl, hk, hX, f4, hne⟩ := hrel
    by_cases hge : K.length ≤ k
    · obtain rfl : k = K.length := by omega
      have t2 : decide (K.length < K.length) = false := by simp
      have hfin := hide_ (show q = false ∧ c = BlkD.zero ∧ u1 = .slice none 0 0 from hf.out.elim (fun h => ⟨h.1, h.2.1, h.2.2.1⟩) fun h => by
        obtain ⟨_, j, h1, _, h2, _⟩ := h
        exact absurd h2 (hne j c (List.getElem?_eq_some_iff.1 h1).1 h1))
      clear hne hge
      go_wp2_with ((first
        | ((with_reducible refine at_sbuild ?_); refine w_sbuild Try.stBlk [.int .i64 0, .int .i64 0, .int .i64 0, .int .i64 0, .slice none 0 0] rfl rfl rfl (by intro p hp; simp at hp) ?_)
        | ((with_reducible refine at_store ?_); refine w_astore Try.stBlk _ _ (us := bRw BlkD.zero (.slice none 0 0)) rfl rfl rfl rfl rfl f4 rfl rfl (blk_one rfl) ?_; intro w3 hm3 f3; replace f4 : Fs w3 g4 (bRw BlkD.zero (.slice none 0 0)) := f3; replace hX := hm3.after hX (fun i hi => by subst hi; exact hg4); clear hm3 f3)
        | fail) <;> (try simp only [Act.put, List.setIfInBounds_toArray, List.set_cons_zero, List.set_cons_succ]))
      obtain ⟨rfl, rfl, rfl⟩ := hfin.out
      exact bodyPost_ret (ret_two Try.stBlk rfl rfl rfl f4 rfl) rfl (Keep.intro ⟨rfl, hX⟩)
    have hlt : k < K.length := by omega
    have t2 : decide (k < K.length) = true := by simpa using hlt
    obtain ⟨d, hd0⟩ : ∃ d, K[k]? = some d := ⟨_, List.getElem?_eq_getElem hlt⟩
    obtain ⟨row, hr0⟩ : ∃ row, rows[k]? = some row := ⟨_, List.getElem?_eq_getElem (by omega)⟩
    obtain ⟨⟨u, hrow0, hu⟩, hraw0⟩ := hR.out k row d hr0 hd0
    obtain ⟨dn, hdn⟩ : ∃ dn, d.name = dn := ⟨_, rfl⟩
    have hrr := hide_ (show rows[k]? = some (bRw d u) from by rw [hr0, hrow0]; rfl)
    have hone5 := hide_ (blk_one (a := d.slot) (b := d.miner) (c := d.var) (d := d.parent) hu.oneC)
    have huu := hide_ hu
    have hraw := hide_ hraw0
    have hdn' := hide_ hdn
    have hne' := hide_ hne
    have hlt' := hide_ hlt
    have hd := hide_ hd0
    clear hge hd0 hdn hne hr0 hrow0 hraw0 hu
    cases c1 : (dn == n)
    all_goals go_wp2_with ((first
      | (go_at_call 17; refine (refBName_any (b := d) (huu.out.ext TxR.stays hX) hraw.out.parent).mono ?_; rintro e w4 ⟨rfl, hx⟩; rw [hdn'.out]; replace f4 := f4.ext hx; replace f7 := f7.ext hx; replace hX := hX.trans hx; clear hx)
      | (refine w_sidx Try.enBk.elS _ _ k rfl rfl rfl rfl hs.out hX hrr.out ?_; intro pa hrow1; have hrow := hide_ hrow1; clear hrow1)
      | ((with_reducible refine at_load ?_); refine w_pload Try.stBlk _ rfl rfl rfl hrow.out rfl ?_)
      | ((with_reducible refine at_alloc ?_); refine w_alloc Try.stBlk rfl rfl ?_; intro g7 w2 hg2 hx2 f7)
      | ((with_reducible refine at_store ?_); refine w_astore Try.stBlk _ _ (us := bRw d u) rfl rfl rfl rfl rfl f7 rfl rfl hone5.out ?_; intro w3 hm3 f3; replace f7 : Fs w3 g7 (bRw d u) := f3; replace hx2 := hm3.after hx2 (fun i hi => by subst hi; exact hg2); replace hX := hX.trans hx2; replace f4 := f4.ext hx2; clear hm3 f3 hx2 hrow hg2)
      | ((with_reducible refine at_store ?_); refine w_astore Try.stBlk _ _ (us := bRw d u) rfl rfl rfl rfl rfl f4 rfl rfl hone5.out ?_; intro w3 hm3 f3; replace f4 : Fs w3 g4 (bRw d u) := f3; replace hX := hm3.after hX (fun i hi => by subst hi; exact hg4); clear hm3 f3)
      | ((with_reducible refine at_load ?_); refine w_aload Try.stBlk _ rfl rfl rfl f7 rfl ?_)
      | fail) <;> (try simp only [Act.put, List.setIfInBounds_toArray, List.set_cons_zero, List.set_cons_succ]))
    · go_roundw
      case rel => exact ⟨k + 1, by go_num, hlt'.out, hX, f4, fun j x hj hx => (Nat.lt_succ_iff_lt_or_eq.1 hj).elim (fun h => hne'.out j x h hx) fun e => by subst e; rw [hd.out] at hx; injection hx with hx; subst hx; rw [hdn'.out]; simpa using c1⟩
      case measure => have := hlt'.out; simp [RowKit.intOf]; omega
    · have hn : d.name = n := hdn'.out.trans (by simpa using c1)
      have hfin : q = true ∧ c = d ∧ u1 = u := by
        rcases hf.out with h | h
        · exact absurd hn (h.2.2.2 k d hd.out)
        · obtain ⟨h0, j, h1, h2, h3, h4⟩ := h
          have e : j = k := by
            rcases Nat.lt_trichotomy j k with h5 | h5 | h5
            · exact absurd h3 (hne'.out j c h5 h1)
            · exact h5
            · exact absurd hn (h4 k d h5 hd.out)
          subst e
          have e1 := hd.out; rw [h1] at e1; injection e1 with e1; subst e1
          have e2 := hrr.out; rw [h2] at e2; injection e2 with e2
          unfold bRw at e2
          simp only [List.cons.injEq, and_true, true_and] at e2
          exact ⟨h0, rfl, e2⟩
      obtain ⟨rfl, rfl, rfl⟩ := hfin
      exact bodyPost_ret (ret_two Try.stBlk rfl rfl rfl f4 rfl) rfl (Keep.intro ⟨rfl, hX⟩)
theorem recs_more {α : Type} {n : Nat} {R : World → List Value → α → Prop} {F : Nat → Prop} {w : World} {e : TypeId} {v : Value} {rows : List (List Value)} {row : List Value} {l : List α} {d : α} (h : RowN F w e n v (rows ++ [row])) (hl : rows.length = l.length) (hR : ∀ (k : Nat) (row : List Value) (d : α), rows[k]? = some row → l[k]? = some d → R w row d) (hd : R w row d) : Recs n R w v (l ++ [d]) :=
  h.recs (by simp [hl]) fun k row' d' hk hd' => by
    by_cases hkl : k < rows.length
    · rw [List.getElem?_append_left hkl] at hk
      rw [List.getElem?_append_left (by omega)] at hd'
      exact hR k row' d' hk hd'
    · rw [List.getElem?_append_right (by omega)] at hk
      rw [List.getElem?_append_right (by omega)] at hd'
      have e : k - rows.length = 0 := by
        have := (List.getElem?_eq_some_iff.1 hk).1; simp at this; omega
      rw [← hl, e] at hd'
      rw [e] at hk
      simp at hk hd'
      subst hk hd'
      exact hd
set_option maxRecDepth 100000 in
set_option maxHeartbeats 3200000 in
theorem refKnow_any {w : World} {vb vs vk u : Value} {g : GaD} {b : BlkD} (hg0 : RG w vb vs vk g) (hu0 : Recs 2 TxR w u b.txs) (hraw0 : b.Raw) (hfew0 : g.kn.length ≤ 1000) :
    Calls Try.prog 28 #[.agg #[vb, vs, vk], .agg #[.int .i64 b.slot, .int .i64 b.miner, .int .i64 b.var, .int .i64 b.parent, u]] w fun e w' => ∃ vk', e = .returned (.agg #[vb, vs, vk']) ∧ RG w' vb vs vk' (g.know b) ∧ Ext w w' := by
  refine calls_keep ?_
  have hg := hide_ hg0
  have hu := hide_ hu0
  have hraw := hide_ hraw0
  have hfew := hide_ hfew0
  have hX := Ext.refl w
  obtain ⟨rows, hs0, hl0, hR0⟩ := hg0.kn
  have hs := hide_ hs0
  have hl := hide_ hl0
  have hR := hide_ hR0
  have h1s := hide_ (show vb.oneCell' = true ∧ vs.oneCell' = true ∧ vk.oneCell' = true from ⟨hg0.bad.one', hg0.said.oneC, hg0.kn.oneC⟩)
  have hone := hide_ (blk_one (a := b.slot) (b := b.miner) (c := b.var) (d := b.parent) hu0.oneC)
  have hro := hide_ (show ∀ y ∈ rows, ∀ x ∈ y, x.oneCell' = true from fun y hy => by
    obtain ⟨k, hk, rfl⟩ := List.getElem_of_mem hy
    exact (hR0 k _ _ (List.getElem?_eq_getElem hk) (List.getElem?_eq_getElem (by omega))).oneC)
  clear hg0 hu0 hraw0 hfew0 hs0 hl0 hR0
  go_enter Try.func28, Try.ntmps28
  go_wp2_with ((first
    | ((with_reducible refine at_box ?_); refine w_box _ [vb, vs, vk] rfl rfl rfl rfl ?_; intro g2 w1 hg2 hx f2; replace hg2 := Nat.le_trans hX.size hg2; replace hX := hX.trans hx; clear hx)
    | ((with_reducible refine at_box ?_); refine w_box _ [.int .i64 b.slot, .int .i64 b.miner, .int .i64 b.var, .int .i64 b.parent, u] rfl rfl rfl rfl ?_; intro g3 w2 hg3 hx f3; replace f2 := f2.ext hx; replace hX := hX.trans hx; clear hx)
    | ((with_reducible refine at_alloc ?_); refine w_alloc Try.stRG rfl rfl ?_; intro g4 w3 hg4 hx f4; have h24 := hide_ (show ¬ g2 = g4 from fun e => by have := f2.lt; omega); replace hg4 := hide_ (Nat.le_trans hX.size hg4); replace f2 := f2.ext hx; replace f3 := f3.ext hx; replace hX := hX.trans hx; clear hx)
    | ((with_reducible refine at_lit ?_); have hk3 := h24; refine w_nnew Try.enBk [] rfl rfl rfl (by simp) rfl (by omega) ?_; intro v6 w6 B hB1 hB2 hx n6; clear hk3; have h2B := hide_ (Nat.lt_of_lt_of_le f2.lt hB1); have h3B := hide_ (Nat.lt_of_lt_of_le f3.lt hB1); have h4B := hide_ (Nat.lt_of_lt_of_le f4.lt hB1); have hBw := hide_ (Nat.le_trans hX.size hB1); have s6 := hide_ hB2; replace n6 := hide_ (n6.mono (G := fun k => B ≤ k) fun k h => h.1); replace f2 := f2.ext hx; replace f3 := f3.ext hx; replace f4 := f4.ext hx; have h24' := h24; clear h24 hB1 hB2; replace hX := hX.trans hx; clear hx)
    | ((with_reducible refine at_field ?_); (try refine w_yes _ _ _ rfl rfl rfl ?_); refine w_field Try.stRG _ _ _ rfl rfl rfl (by omega) ?_)
    | ((with_reducible refine at_load ?_); (try refine w_yes _ _ _ rfl rfl rfl ?_); refine w_fload _ rfl rfl rfl f2 rfl (agg_of (by kernel_rfl)) ?_)
    | ((with_reducible refine at_bi ?_); refine w_napp0 Try.enBk _ _ rfl rfl rfl rfl n6.out (hs.out.ext hX) hro.out (by rw [hl.out]; have := hfew.out; simp; omega) ?_; intro v9 w9 hm9 n9; have s9 := hide_ (Nat.le_trans s6.out hm9.size); replace n9 := hide_ (n9.mono (G := fun k => B ≤ k) fun k h => h.elim id fun e => Nat.le_trans s6.out e.1); replace f2 := f2.mod hm9 (fun e => by have := h2B.out; omega); replace f3 := f3.mod hm9 (fun e => by have := h3B.out; omega); replace f4 := f4.mod hm9 (fun e => by have := h4B.out; omega); replace hX := hm9.after hX (fun i e => Nat.le_trans hBw.out e); clear hm9 n6 s6)
    | ((with_reducible refine at_load ?_); refine w_aload Try.stBlk _ rfl rfl rfl f3 rfl ?_)
    | ((with_reducible refine at_lit ?_); refine w_nnew Try.enBk [[.int .i64 b.slot, .int .i64 b.miner, .int .i64 b.var, .int .i64 b.parent, u]] rfl rfl rfl (by simp) rfl (by omega) ?_; intro v12 w12 C hC1 hC2 hx n12; replace n12 := hide_ n12.slS; replace n9 := hide_ (n9.out.ext hx); have s12 := hide_ (Nat.le_trans s9.out hx.size); replace f2 := f2.ext hx; replace f4 := f4.ext hx; clear hC1 hC2 s9; replace hX := hX.trans hx; clear hx)
    | ((with_reducible refine at_bi ?_); refine w_napp Try.enBk _ _ rfl rfl rfl rfl n9.out n12.out (by simp) (by intro y hy; rw [List.mem_singleton] at hy; subst hy; exact hone.out) (by have h1 := hl.out; have h2 := hfew.out; simp only [List.nil_append, List.length_cons, List.length_nil, h1]; omega) ?_; intro v13 w13 hm13 n13; replace n13 := hide_ (n13.mono (G := fun k => B ≤ k) fun k h => h.elim id fun e => Nat.le_trans s12.out e.1); replace f2 := f2.mod hm13 (fun e => by have := h2B.out; omega); replace f4 := f4.mod hm13 (fun e => by have := h4B.out; omega); replace hX := hm13.after hX (fun i e => Nat.le_trans hBw.out e); clear hm13 n9 n12 s12)
    | ((with_reducible refine at_store ?_); refine w_fstore _ _ (u := v13) rfl rfl rfl rfl rfl f2 (by simp) (oneCell_cells (rowN_oneG n13.out)) (rowN_oneG n13.out) (by kernel_rfl) ?_; intro w14 hm14 f14; have h131 := hide_ (rowN_oneG n13.out); replace n13 := hide_ (n13.out.mod hm14 (fun k h e => by have := h2B.out; omega)); replace f4 := f4.mod hm14 (fun e => h24'.out e.symm); replace hX := hm14.after hX (fun i e => e ▸ hg2); have f2b : Fs w14 g2 [vb, vs, v13] := f14; clear hm14 f14 f2)
    | ((with_reducible refine at_load ?_); refine w_aload Try.stRG _ rfl rfl rfl f2b rfl ?_)
    | ((with_reducible refine at_store ?_); refine w_astore Try.stRG _ _ (us := [vb, vs, v13]) rfl rfl rfl rfl rfl f4 rfl rfl (by intro y hy; simp at hy; rcases hy with rfl | rfl | rfl; exact h1s.out.1; exact h1s.out.2.1; exact h131.out) ?_; intro w15 hm15 f15; replace n13 := hide_ (n13.out.mod hm15 (fun k h e => by have := h4B.out; omega)); replace hX := hm15.after hX (fun i e => e ▸ hg4.out); clear hm15 f4 f2b)
    | fail) <;> (try simp only [Act.put, List.setIfInBounds_toArray, List.set_cons_zero, List.set_cons_succ]))
  have hg' := hg.out.ext hX
  exact bodyPost_ret (ret_one Try.stRG rfl rfl f15 rfl) rfl (Keep.intro ⟨v13, rfl, ⟨hg'.bad, hg'.said, recs_more (by have := n13.out; rw [List.nil_append] at this; exact this) hl.out (fun k row d h1 h2 => BlkR.stays _ _ _ _ (hR.out k row d h1 h2) hX) ⟨⟨u, rfl, hu.out.ext TxR.stays hX⟩, hraw.out⟩⟩, hX⟩)
end Go.Proofs.Ytgbhbifdfcfamaa
