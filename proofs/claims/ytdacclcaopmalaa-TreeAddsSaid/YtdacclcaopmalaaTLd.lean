/- The statement TreeAdds: whichever blocks come, one after the other: which are known by that, which wait, which are missing, and which is the tip. No condition. -/
import Derived.Test.YtdacclcaopmalaaTLy
import Derived.Test.YtdacclcaopmalaaRegG
namespace Go.Proofs.Ytdacclcaopmalaa
set_option maxRecDepth 100000
open Go.RowKit Go.ChangeShapes Go.WideShapes Go.ChangeAt

/-- A block's row as it was at a first world. -/
def BlkC (Wr : World) (_ : World) (row : List Value) (d : BlkD) : Prop := BlkR Wr row d
theorem BlkC.stays {Wr : World} : Stays (BlkC Wr) := fun _ _ _ _ h _ => h
theorem KP.recsC {W0 w : World} {S : Nat → Prop} {v : Value} {l : List BlkD} (h : KP W0 S w v l) : Recs 5 (BlkC W0) w v l := by
  obtain ⟨rows, h1, ⟨h2, h3⟩, _⟩ := h
  exact ⟨rows, h1, h2, h3⟩
theorem w_didxC {P : Program} {ops : Array Oper} {rest : List Oper} {o : Oper} {a : Act} {Q : Exit → Act → World → Prop} {w W0 Wr : World} {t e : TypeId} {v : Value} {l : List BlkD} (E : ElS P t e 5) (x y : Operand) (i : Nat) (hgd : o.guard = none) (ho : o.op = .indexAddr t x y) (hv : a.eval x = v) (hy : a.eval y = .int .i64 i)
    (h : Recs 5 (BlkC Wr) W0 v l) (he : Ext W0 w) {d : BlkD} (hd : l[i]? = some d) (k : ∀ p u, RowAt w p (bRow d u) → Recs 2 TxR Wr u d.txs → d.Raw → wpList P ops Q rest (a.put o.dst (.pointer (some p))) w) : wpList P ops Q (o :: rest) a w := by
  have hi := (List.getElem?_eq_some_iff.1 hd).1
  have e : l[i] = d := (List.getElem?_eq_some_iff.1 hd).2
  refine w_ridx0 E x y i BlkC.stays hgd ho hv hy h he hi ?_
  rintro pa row hrow _ ⟨⟨u, rfl, hu⟩, hraw⟩
  rw [e] at hrow hu hraw
  exact k pa u (hrow.ext he) hu hraw

set_option maxRecDepth 100000 in
set_option maxHeartbeats 1600000 in
theorem refGet_at {Wr w : World} {vk vw : Value} {K : List BlkD} {n : Int} (er : Ext Wr w) (hK0 : Recs 5 (BlkC Wr) w vk K) :
    Calls Try.prog 36 #[.agg #[vk, vw], .int .i64 n] w fun e w' => ∃ u, e = .returned (.tuple #[.agg (bRow (getOr K n) u).toArray, .bool (TrS.has K n)]) ∧ Recs 2 TxR Wr u (getOr K n).txs ∧ Ext w w' := by
  refine calls_keep ?_
  have hK := hide_ hK0
  have hmax := hK0.len_le
  unfold maxLen at hmax
  clear hK0
  go_enter Try.func36, Try.ntmps36
  go_wp2_with ((first
    | ((with_reducible refine at_box ?_); refine w_box _ [vk, vw] rfl rfl rfl rfl ?_; intro g1 w1 hg1 hX f1)
    | ((with_reducible refine at_alloc ?_); refine w_alloc Try.stBlk rfl rfl ?_; intro g4 w2 hg4 hx2 f4; replace f1 := f1.ext hx2; replace hg4 := Nat.le_trans hX.size hg4; replace hX := hX.trans hx2; clear hx2)
    | ((with_reducible refine at_field ?_); (try refine w_yes _ _ _ rfl rfl rfl ?_); refine w_field Try.stDoc _ _ _ rfl rfl rfl (by omega) ?_)
    | ((with_reducible refine at_load ?_); (try refine w_yes _ _ _ rfl rfl rfl ?_); refine w_fload _ rfl rfl rfl f1 rfl (agg_of (by kernel_rfl)) ?_)
    | ((with_reducible refine at_bi ?_); refine w_rlen Try.enBlk.elS _ rfl rfl rfl (hK.out.ext BlkC.stays hX) ?_)
    | fail) <;> (try simp only [Act.put, List.setIfInBounds_toArray, List.set_cons_zero, List.set_cons_succ]))
  go_loopw [11] (fun i wr => ∃ k : Nat, i = .int .i64 k ∧ k ≤ K.length ∧ Ext w wr ∧ Fs wr g4 [.int .i64 0, .int .i64 0, .int .i64 0, .int .i64 0, .slice none 0 0] ∧ ∀ j x, j < k → K[j]? = some x → x.name ≠ n) (fun i _ => K.length - (RowKit.intOf i).toNat)
  case atStart => exact ⟨0, rfl, Nat.zero_le _, hX, f4, fun j x h => absurd h (by omega)⟩
  case round =>
    clear hX f4 f1
    obtain ⟨k, rfl, hk, hX, f4, hne⟩ := hrel
    by_cases hge : K.length ≤ k
    · obtain rfl : k = K.length := by omega
      have t2 : decide (K.length < K.length) = false := by simp
      have hg := get_nowhere hne
      have e1 := hide_ (show getOr K n = BlkD.zero by rw [getOr, hg]; rfl)
      have e2 := hide_ (show TrS.has K n = false by rw [← get_has, hg]; rfl)
      clear hne hge hg
      go_wp2_with ((first
        | ((with_reducible refine at_sbuild ?_); refine w_sbuild Try.stBlk [.int .i64 0, .int .i64 0, .int .i64 0, .int .i64 0, .slice none 0 0] rfl rfl rfl (by intro p hp; simp at hp) ?_)
        | ((with_reducible refine at_store ?_); refine w_astore Try.stBlk _ _ (us := bRow BlkD.zero (.slice none 0 0)) rfl rfl rfl rfl rfl f4 rfl rfl (blk_one rfl) ?_; intro w3 hm3 f3; replace f4 : Fs w3 g4 (bRow BlkD.zero (.slice none 0 0)) := f3; replace hX := hm3.after hX (fun i hi => by subst hi; exact hg4); clear hm3 f3)
        | fail) <;> (try simp only [Act.put, List.setIfInBounds_toArray, List.set_cons_zero, List.set_cons_succ]))
      exact bodyPost_ret (ret_two Try.stBlk rfl rfl rfl f4 rfl) rfl (Keep.intro ⟨.slice none 0 0, by rw [e1.out, e2.out]; rfl, by rw [e1.out]; exact (RowN.nil (F := fun _ => True) _ 0 2).recs rfl (by simp), hX⟩)
    have hlt : k < K.length := by omega
    have t2 : decide (k < K.length) = true := by simpa using hlt
    obtain ⟨d, hd0⟩ : ∃ d, K[k]? = some d := ⟨_, List.getElem?_eq_getElem hlt⟩
    obtain ⟨dn, hdn⟩ : ∃ dn, d.name = dn := ⟨_, rfl⟩
    have hdn' := hide_ hdn
    have hne' := hide_ hne
    have hlt' := hide_ hlt
    have hd := hide_ hd0
    clear hge hd0 hdn hne
    cases c1 : (dn == n)
    all_goals go_wp2_with ((first
      | (go_at_call 35; refine (refBName_any (b := d) (hu.ext TxR.stays (er.trans hX)) hraw.out.parent).mono ?_; rintro e w4 ⟨rfl, hx⟩; rw [hdn'.out]; replace hX := hX.trans hx; replace f4 := f4.ext hx; replace f7 := f7.ext hx; clear hx)
      | (refine w_didxC Try.enBlk.elS _ _ k rfl rfl rfl rfl hK.out hX hd.out ?_; intro pa u hrow hu hraw; have hone := blk_one (a := d.slot) (b := d.miner) (c := d.var) (d := d.parent) hu.one'; replace hrow := hide_ hrow; replace hraw := hide_ hraw)
      | ((with_reducible refine at_load ?_); refine w_pload Try.stBlk _ rfl rfl rfl hrow.out rfl ?_)
      | ((with_reducible refine at_alloc ?_); refine w_alloc Try.stBlk rfl rfl ?_; intro g7 w2 hg2 hx2 f7; have hn47 : g4 ≠ g7 := (fun e => by have := f4.lt; omega))
      | ((with_reducible refine at_store ?_); refine w_astore Try.stBlk _ _ (us := bRow d u) rfl rfl rfl rfl rfl f7 rfl rfl hone ?_; intro w3 hm3 f3; replace f7 : Fs w3 g7 (bRow d u) := f3; replace hx2 := hm3.after hx2 (fun i hi => by subst hi; exact hg2); replace hX := hX.trans hx2; replace f4 := f4.ext hx2; clear hm3 f3 hx2 hrow hg2)
      | ((with_reducible refine at_store ?_); refine w_astore Try.stBlk _ _ (us := bRow d u) rfl rfl rfl rfl rfl f4 rfl rfl hone ?_; intro w3 hm3 f3; replace f4 : Fs w3 g4 (bRow d u) := f3; replace hX := hm3.after hX (fun i hi => by subst hi; exact hg4); clear hm3 f3)
      | ((with_reducible refine at_load ?_); refine w_aload Try.stBlk _ rfl rfl rfl f7 rfl ?_)
      | fail) <;> (try simp only [Act.put, List.setIfInBounds_toArray, List.set_cons_zero, List.set_cons_succ]))
    · go_roundw
      case rel => exact ⟨k + 1, by go_num, hlt'.out, hX, f4, none_more hd.out (by rw [hdn'.out]; simpa using c1) hne'.out⟩
      case measure => have := hlt'.out; simp [RowKit.intOf]; omega
    · have hg := get_first hd.out (hdn'.out.trans (by simpa using c1)) hne'.out
      have e1 : getOr K n = d := by rw [getOr, hg]; rfl
      have e2 : TrS.has K n = true := by rw [← get_has, hg]; rfl
      exact bodyPost_ret (ret_two Try.stBlk rfl rfl rfl f4 rfl) rfl (Keep.intro ⟨u, by rw [e1, e2]; rfl, by rw [e1]; exact hu, hX⟩)

/-- What the document's Get answers: a block by value, and whether it is known. -/
def Sp.got (W : World) (b : BlkD) (q : Bool) : Sp := .any (fun v _ => ∃ u, v = .tuple #[.agg (bRow b u).toArray, .bool q] ∧ Recs 2 TxR W u b.txs) fun _ _ _ h _ => h
def Sp.blkv (W : World) (b : BlkD) : Sp := .any (fun v _ => ∃ u, v = .agg (bRow b u).toArray ∧ Recs 2 TxR W u b.txs) fun _ _ _ h _ => h
/-- What region 22 tells of its operations' values. -/
def V22 (W : World) (vk vw : Value) (d : BlkD) (u : Value) (nm : Int) (y : BlkD) (q : Bool) (i : Nat) (v : Value) : Prop :=
  match i with
  | 0 => v = .agg #[vk, vw]
  | 1 => v = .agg (bRow d u).toArray
  | 2 => v = .int .i64 nm
  | 3 => ∃ u, v = .tuple #[.agg (bRow y u).toArray, .bool q] ∧ Recs 2 TxR W u y.txs
  | 4 => ∃ u, v = .tuple #[.agg (bRow y u).toArray, .bool q] ∧ Recs 2 TxR W u y.txs
  | 5 => ∃ u, v = .agg (bRow y u).toArray ∧ Recs 2 TxR W u y.txs
  | _ => v = .bool q
theorem runs_extract {P : Program} {o : Oper} {ρ : Operand → Value} {w : World} {x : Operand} {i : Nat} {vs : Array Value} {u : Value} (ho : o.op = .extract x i) (hx : ρ x = .tuple vs) (hi : vs[i]? = some u) : Runs P o ρ w u := by
  unfold Runs execOp
  simp [ho, hx, Instr.extract, hi]
theorem gotH {W w : World} {vk vw : Value} {K : List BlkD} {n : Int} {y : BlkD} {q : Bool} (hy : getOr K n = y) (hq : TrS.has K n = q) (er : Ext W w) (h : Recs 5 (BlkC W) w vk K) : Calls Try.prog 36 #[.agg #[vk, vw], .int .i64 n] w fun e w' => ∃ v', e = .returned v' ∧ Ext w w' ∧ Sp.p (Sp.got W y q) v' w' := by
  refine (refGet_at (vw := vw) (n := n) er h).mono ?_
  rintro e w' ⟨u, rfl, hu, hx⟩
  rw [hy] at hu; rw [hy, hq]
  exact ⟨_, rfl, hx, u, rfl, hu⟩
theorem retI {f : FuncId} {args : Array Value} {w : World} {l : List Int} (h : Calls Try.prog f args w fun e w' => ∃ v', e = .returned v' ∧ Ints w' v' l ∧ Ext w w') : Calls Try.prog f args w fun e w' => ∃ v', e = .returned v' ∧ Ext w w' ∧ Sp.p (.sl (i64s l)) v' w' := by
  refine h.mono ?_
  rintro e w' ⟨v', rfl, ho, hx⟩
  exact ⟨_, rfl, hx, ho⟩
theorem name_i64 (b : BlkD) : I64 b.name := by
  by_cases h : b.name = 0
  · rw [h]; exact ⟨by omega, by omega⟩
  · exact (right_of_name h).i64
/-- Rows of two numbers each. -/
def Two2 (rows : List (List Value)) : Prop := ∀ r ∈ rows, ∃ a b : Int, r = [.int .i64 a, .int .i64 b]
theorem Two2.of (l : List TxD) : Two2 (l.map TxD.row) := fun r hr => by
  obtain ⟨t, _, rfl⟩ := List.mem_map.1 hr
  exact ⟨t.id, t.fee, rfl⟩
theorem Two2.set {rows : List (List Value)} {i : Nat} {a b c : Int} (h : Two2 rows) (hi : i < rows.length) (he : rows[i] = [.int .i64 a, .int .i64 b]) : Two2 (rows.set i (rows[i].set 1 (.int .i64 c))) := fun r hr => by
  rcases List.mem_or_eq_of_mem_set hr with h1 | rfl
  · exact h r h1
  · exact ⟨a, c, by rw [he]; rfl⟩

set_option maxRecDepth 100000 in
set_option maxHeartbeats 6400000 in
theorem treeAdds_law (v0 : Value) (l : List BlkD) (W : World) (hl00 : Recs 5 BlkL W v0 l) : Calls Try.prog 9 #[v0] W fun e w' => e = .returned (.bool true) ∧ Ext W w' := by
  refine calls_keep ?_
  have hl0 := hide_ hl00
  have hmax := hl00.len_le
  unfold maxLen at hmax
  have hraws := hide_ (fun k d (h : l[k]? = some d) => blks_at hl00 h)
  clear hl00
  by_cases hbig : 60 < l.length
  · have t1 : decide ((60 : Int) < (l.length : Int)) = true := decide_eq_true (by omega)
    go_enter Try.func9, Try.ntmps9
    go_wp2_with ((first
      | (go_at_call 22; refine (treeAlive_any _).mono ?_; rintro e w2 ⟨rfl, hX⟩)
      | ((with_reducible refine at_bi ?_); refine w_rlen Try.enBlk.elS _ rfl rfl rfl (hl0.out.ext BlkL.stays hX) ?_)
      | fail) <;> (try simp only [Act.put, List.setIfInBounds_toArray, List.set_cons_zero, List.set_cons_succ]))
    go_ret
    exact Keep.intro ⟨rfl, hX⟩
  have t1 : decide ((60 : Int) < (l.length : Int)) = false := decide_eq_false (by omega)
  go_enter Try.func9, Try.ntmps9
  go_wp2_with ((first
    | (go_at_call 22; refine (treeAlive_any _).mono ?_; rintro e w2 ⟨rfl, hX⟩)
    | ((with_reducible refine at_bi ?_); have _t := hX; refine w_rlen Try.enBlk.elS _ rfl rfl rfl (hl0.out.ext BlkL.stays hX) ?_)
    | (go_at_call 23; refine (New_any (w := _)).mono ?_; rintro e w1 ⟨p, G, rfl, hT, hx, hG⟩)
    | ((with_reducible refine at_sbuild ?_); refine w_sbuild Try.stDoc [.slice none 0 0, .slice none 0 0] rfl rfl rfl (by intro p hp; simp at hp) ?_)
    | ((with_reducible refine at_alloc ?_); refine w_alloc Try.stDoc rfl rfl ?_; intro g4 w2 hg4 hx2 f4)
    | ((with_reducible refine at_store ?_); refine w_astore Try.stDoc _ _ (us := zero2) rfl rfl rfl rfl rfl f4 rfl rfl (two_one rfl rfl) ?_; intro w3 hm3 f9; replace hx2 := hm3.after hx2 (fun i hi => by subst hi; exact hg4); obtain ⟨G0, hN⟩ := Ga.start hX hT hx hG hg4 hx2 f9; clear hX hT hx hG hx2 f9 hm3 f4)
    | ((with_reducible refine at_bi ?_); refine w_rlen Try.enBlk.elS _ rfl rfl rfl (hl0.out.ext BlkL.stays hN.out.ext) ?_)
    | fail) <;> (try simp only [Act.put, List.setIfInBounds_toArray, List.set_cons_zero, List.set_cons_succ]))
  go_loopw [27] (fun i wr => ∃ (k : Nat) (G : Nat → Prop) (vk vw : Value), i = .int .i64 k ∧ k ≤ l.length ∧ Ga W wr G (fun _ => False) p g4 vk vw (st l k).known (st l k).wait (st l k).known (st l k).wait) (fun i _ => l.length - (RowKit.intOf i).toNat)
  case atStart => exact ⟨0, G0, _, _, rfl, Nat.zero_le _, by rw [st_zero]; exact hN⟩
  case round =>
    clear hN
    obtain ⟨k, G, vk, vw, rfl, hk, hN⟩ := hrel
    have hgood := st_good l k
    by_cases hge : l.length ≤ k
    · obtain rfl : k = l.length := by omega
      have t2 : decide (l.length < l.length) = false := by simp
      obtain ⟨⟨K, V⟩, hKV⟩ : ∃ t, st l l.length = t := ⟨_, rfl⟩
      rw [hKV] at hN hgood
      replace hN : Ga W wr G (fun _ => False) p g4 vk vw K V K V := hN
      have hroom : K.length ≤ 400 := hgood.room
      have hT := hN.tr
      have hKK := hN.kk.recs hN.out.ext
      have f4 := hN.f5
      obtain ⟨L, hL⟩ : ∃ L, TrS.names K = L := ⟨_, rfl⟩
      have hP1 := hide_ (fun w' (h : Ext wr w') => hL ▸ Names_any (hT.ext h))
      have hP2 := hide_ (fun w' (h : Ext wr w') => hL ▸ refNames_any (vw := vw) (hKK.ext BlkR.stays h) hroom)
      have hXE := hide_ hN.out.ext
      have hX := Ext.refl wr
      clear hge hk hgood hN hT hKK hroom hL
      go_wp2
      refine wp_region_phx (by kernel_rfl) ?_; intro wd hxd; have F4 := f4.ext hxd
      refine Ph.rest 0 6 (by kernel_rfl) ?_
      refine LinL.step (s := (.val (.pointer (some ⟨p, 0, none⟩)))) [(3, none)] rfl (by kernel_rfl) (op_out 3 (.pointer (some ⟨p, 0, none⟩)) rfl (.inl rfl) rfl) ?_
      refine LinL.step (s := (.sl (i64s L))) [(119, some 0)] rfl (by kernel_rfl) (op_calls 38 #[(.tmp 119)] #[49] (fun σ => #[.pointer (some ⟨p, 0, none⟩)]) rfl rfl (fun _ _ => rfl) fun σ w' hx hg => ⟨by have h119 : σ.tmps.getD 119 undef = .pointer (some ⟨p, 0, none⟩) := hg.1; simp only [List.map_toArray, List.map_cons, List.map_nil, Act.eval, h119], retSl (hP1.out w' (hX.trans (hxd.trans hx)))⟩) ?_
      refine LinL.step (s := (.val (.agg #[vk, vw]))) [(4, none)] rfl (by kernel_rfl) (op_runs rfl fun σ w' hx hg => ⟨_, runs_aload (ρ := σ.eval) (w := w') Try.stDoc (.tmp 4) rfl hg.1 (F4.ext hx) rfl, rfl⟩) ?_
      refine LinL.step (s := (.sl (i64s L))) [(121, some 0)] rfl (by kernel_rfl) (op_calls 39 #[(.tmp 121)] #[52] (fun σ => #[.agg #[vk, vw]]) rfl rfl (fun _ _ => rfl) fun σ w' hx hg => ⟨by have h121 : σ.tmps.getD 121 undef = .agg #[vk, vw] := hg.1; simp only [List.map_toArray, List.map_cons, List.map_nil, Act.eval, h121], retI (hP2.out w' (hX.trans (hxd.trans hx)))⟩) ?_
      refine LinL.step (s := (.val (.bool true))) [(120, some 2), (122, some 0)] rfl (by kernel_rfl) (op_calls 27 #[(.tmp 120), (.tmp 122)] #[32, 32] (fun σ => #[σ.tmps.getD 120 undef, σ.tmps.getD 122 undef]) rfl rfl (fun _ _ => rfl) fun σ w' hx hg => ⟨by skip; simp only [List.map_toArray, List.map_cons, List.map_nil, Act.eval], retH (SameInts_any _ _ L _ hg.1 hg.2.1)⟩) ?_
      refine LinL.step (s := (.val (.bool true))) [(123, some 0)] rfl (by kernel_rfl) (op_copy 123 0 (.val (.bool true)) rfl (.inr rfl) rfl) ?_
      intro wN hxN
      simp only [Fin', List.reverse_cons, List.reverse_nil, List.nil_append, List.cons_append, List.drop_zero, List.take_succ_cons, List.take_zero]
      intro q120 hq120 q122 hq122
      simp only [Act.put, List.setIfInBounds_toArray, List.set_cons_zero, List.set_cons_succ]
      replace hX := hX.trans (hxd.trans hxN)
      go_wp2
      go_ret
      exact Keep.intro ⟨rfl, hXE.out.trans hX⟩
    have hlt : k < l.length := by omega
    have t2 : decide (k < l.length) = true := by simpa using hlt
    obtain ⟨d, hd0⟩ : ∃ d, l[k]? = some d := ⟨_, List.getElem?_eq_getElem hlt⟩
    have hraw := hide_ (hraws.out k d hd0)
    have hst0 := st_succ hd0
    have hgood2 := add_good (d := d) hgood
    have hV16 := hide_ hgood.few
    have hlt' := hide_ hlt
    have hd := hide_ hd0
    obtain ⟨⟨K, V⟩, hKV⟩ : ∃ t, st l k = t := ⟨_, rfl⟩
    rw [hKV] at hN hst0 hV16 hgood2
    replace hN : Ga W wr G (fun _ => False) p g4 vk vw K V K V := hN
    obtain ⟨⟨⟨K2, V2⟩, Ln, okv⟩, hR0⟩ : ∃ R, TrS.add ⟨K, V⟩ d = R := ⟨_, rfl⟩
    rw [hR0] at hst0 hgood2
    have hcalm := hide_ (show ∀ x ∈ V2, TrS.ready K2 x = false from hgood2.calm)
    have hfew2 := hide_ (show V2.length ≤ 16 from hgood2.few)
    have hroom2 := hide_ (show K2.length ≤ 400 from hgood2.room)
    have huq2 := hide_ (show TrS.Uq K2 from hgood2.uq)
    have hst := hide_ hst0
    have hR := hide_ hR0
    have hdl : d.txs.length ≤ 8796093022208 := by have := hraw.out.2; omega
    clear hge hlt hd0 hKV hst0 hR0 hgood hgood2
    go_wp2_with ((first
      | ((with_reducible refine at_idx ?_); refine w_lidx0 Try.enBlk.elS _ _ k rfl rfl rfl rfl hl0.out hN.out.ext hd.out ?_; intro pa u hrow hu; have hone := blk_one (a := d.slot) (b := d.miner) (c := d.var) (d := d.parent) hu.one'; replace hrow := hide_ hrow; replace hu := hide_ hu; have tokA : True := trivial)
      | ((with_reducible refine at_load ?_); refine w_pload Try.stBlk _ rfl rfl rfl hrow.out rfl ?_)
      | ((with_reducible refine at_alloc ?_); have _t := tokA; refine w_alloc Try.stBlk rfl rfl ?_; intro g6 w2 hg6 hx f6; have n6 := hide_ (show ¬ G g6 from fun h => by have := hN.lt g6 h; omega); have n64 := hide_ (show ¬ g6 = g4 from fun h => by have := hN.f5.lt; omega))
      | ((with_reducible refine at_store ?_); refine w_astore Try.stBlk _ _ (us := bRow d u) rfl rfl rfl rfl rfl f6 rfl rfl hone ?_; intro w3 hm3 f9; replace hx := hm3.after hx (fun i hi => by subst hi; exact hg6); replace f6 : Fs w3 g6 (bRow d u) := f9; replace hN := hN.extend hx; clear hx hm3 f9 hrow hg6 hone tokA)
      | (go_at_call 24; refine (BCopy_any (b := d) (hu.out.ext TxR.stays hN.out.ext) hraw.out.2).mono ?_; rintro e w5 ⟨uc, rfl, oc, hx⟩; have nc6 := hide_ (show ¬ uc.ownBlock = some g6 from fun e => by have := oc.new _ e; have := f6.lt; omega); replace hN := hN.take (X' := fun k => uc.ownBlock = some k) hx (fun j hj => ⟨oc.new j hj, oc.lt hj⟩); replace f6 := f6.ext hx; replace oc := hide_ oc; have oneC := blk_one (a := d.slot) (b := d.miner) (c := d.var) (d := d.parent) oc.out.recs.one'; clear hx)
      | ((with_reducible refine at_alloc ?_); have _t := oneC; refine w_alloc Try.stBlk rfl rfl ?_; intro g7 w8 hg7 hx f7; have n7 := hide_ (show ¬ G g7 from fun h => by have := hN.lt g7 h; omega); have n74 := hide_ (show ¬ g7 = g4 from fun h => by have := hN.f5.lt; omega); have nc7 := hide_ (show ¬ uc.ownBlock = some g7 from fun e => by have := oc.out.lt e; omega))
      | ((with_reducible refine at_store ?_); have _t := oneC; refine w_astore Try.stBlk _ _ (us := bRow d uc) rfl rfl rfl rfl rfl f7 rfl rfl oneC ?_; intro w9 hm3 f9; replace hx := hm3.after hx (fun i hi => by subst hi; exact hg7); replace f7 : Fs w9 g7 (bRow d uc) := f9; replace hN := hN.extend hx; replace f6 := f6.ext hx; replace oc := hide_ (oc.out.ext hx); clear hx hm3 f9 hg7 oneC)
      | ((with_reducible refine at_load ?_); refine w_aload Try.stBlk (.tmp 7) rfl rfl rfl f7 rfl ?_)
      | ((with_reducible refine at_load ?_); refine w_aload Try.stBlk (.tmp 6) rfl rfl rfl f6 rfl ?_)
      | ((with_reducible refine at_load ?_); refine w_aload Try.stDoc (.tmp 4) rfl rfl rfl hN.f5 rfl ?_)
      | (go_at_call 25; refine (Add_r8 hR.out hN.tr hV16.out oc.out.recs hraw.out.1).mono ?_; rintro e wB ⟨v10, G2, rfl, o10, hT2, hU⟩; have s8 := o10.safe (G := fun k => k < _) (fun k hk => hk); have b8 := hide_ (fun j (hj : uc.ownBlock = some j) => oc.out.lt hj); have b84 := hide_ hN.f5.lt; replace oc := hide_ (oc.out.mod hU.mod fun j hj => hN.gx j hj); replace hN := hN.add hU hT2; replace f6 := f6.mod hU.mod n6.out; replace f7 := f7.mod hU.mod n7.out; clear hT2 hU o10 n6 n7)
      | (go_at_call 26; refine (refAdd_kp (b := d) (u := u) hN.out.ext hN.kk hN.kv hV16.out hu.out hraw.out.1 hR.out).mono ?_; rintro e w5 ⟨vk1, vw1, v1, rfl, k1, k2, o1, hx⟩; have s11 := o1.safe (G := fun k => k < _) (fun k hk => hk); have b11 := hide_ (fun j (hj : uc.ownBlock = some j) => oc.out.lt hj); have b114 := hide_ hN.f5.lt; replace k1 := hN.next k1; replace k2 := hN.next k2; have one10 := two_one k1.one k2.one; replace hN := hN.extend hx; replace f6 := f6.ext hx; replace f7 := f7.ext hx; replace oc := hide_ (oc.out.ext hx); replace s8 := s8.ext hx; clear hx o1)
      | ((with_reducible refine at_alloc ?_); have _t := one10; refine w_alloc Try.stDoc rfl rfl ?_; intro g10 w10 hg10 hx f10)
      | ((with_reducible refine at_store ?_); have _t := hg10; refine w_astore Try.stDoc _ _ (us := [vk1, vw1]) rfl rfl rfl rfl rfl f10 rfl rfl one10 ?_; intro w11 hm3 f9; replace hx := hm3.after hx (fun i hi => by subst hi; exact hg10); replace f10 : Fs w11 g10 [vk1, vw1] := f9; replace k1 := k1.ext hx; replace k2 := k2.ext hx; replace hN := hN.extend hx; replace f6 := f6.ext hx; replace f7 := f7.ext hx; replace oc := hide_ (oc.out.ext hx); replace s8 := s8.ext hx; replace s11 := s11.ext hx; clear hx hm3 f9 hg10)
      | ((with_reducible refine at_load ?_); refine w_aload Try.stDoc (.tmp 10) rfl rfl rfl f10 rfl ?_)
      | ((with_reducible refine at_store ?_); have _t := one10; refine w_astore Try.stDoc (.tmp 4) _ (us := [vk1, vw1]) rfl rfl rfl rfl rfl hN.f5 rfl rfl one10 ?_; intro w12 hm3 f9; replace oc := hide_ (oc.out.mod hm3 fun j hj e => hN.x5 (e ▸ hj)); replace hN := hN.store k1 k2 hm3 f9; replace f6 := f6.mod hm3 n64.out; replace f7 := f7.mod hm3 n74.out; replace s8 := s8.mod hm3 (fun j hj => by subst hj; exact b84.out); replace s11 := s11.mod hm3 (fun j hj => by subst hj; exact b114.out); clear hm3 f9 k1 k2 f10 one10 n64 n74 b84 b114)
      | ((with_reducible refine at_field ?_); refine w_field Try.stBlk _ _ _ rfl rfl rfl (by omega) ?_)
      | ((with_reducible refine at_load ?_); refine w_fload _ rfl rfl rfl f7 rfl (agg_of (by kernel_rfl)) ?_)
      | ((with_reducible refine at_bi ?_); refine w_rlen Try.elTx _ rfl rfl (v := uc) rfl oc.out.recs ?_)
      | fail) <;> (try simp only [Act.put, List.setIfInBounds_toArray, List.set_cons_zero, List.set_cons_succ]))
    go_loopw [50] (fun i wr => ∃ (j : Nat) (rows : List (List Value)), i = .int .i64 j ∧ j ≤ d.txs.length ∧ rows.length = d.txs.length ∧ Two2 rows ∧ RowN (fun k => uc.ownBlock = some k) wr 30 2 uc rows ∧ Mod (fun k => uc.ownBlock = some k) w12 wr) (fun i _ => d.txs.length - (RowKit.intOf i).toNat)
    case atStart => exact ⟨0, _, rfl, Nat.zero_le _, by simp, Two2.of d.txs, oc.out.own, Mod.refl _ _⟩
    case round =>
      obtain ⟨j, rows, rfl, hj, hrl, htw, hrow, hm⟩ := hrel
      by_cases hge : d.txs.length ≤ j
      rotate_left
      · have hlt : j < d.txs.length := by omega
        have t3 : decide (j < d.txs.length) = true := by simpa using hlt
        have hjr : j < rows.length := by omega
        obtain ⟨a, b, hab⟩ := htw _ (List.getElem_mem hjr)
        have f7w := f7.mod hm nc7.out
        have hjr' := hide_ hjr
        have hab' := hide_ hab
        have htw' := hide_ htw
        have hrl' := hide_ hrl
        have hlt' := hide_ hlt
        clear hge hlt hab htw hrl
        go_wp2_with ((first
          | ((with_reducible refine at_field ?_); refine w_field Try.stBlk _ _ _ rfl rfl rfl (by omega) ?_)
          | ((with_reducible refine at_load ?_); refine w_fload _ rfl rfl rfl f7w rfl (agg_of (by kernel_rfl)) ?_)
          | (refine w_nidx Try.elTx _ _ (i := j) rfl rfl (v := uc) rfl rfl hrow hjr'.out ?_; intro gk hgk hat; rw [hab'.out] at hat)
          | ((with_reducible refine at_field ?_); refine w_pfield Try.stTx _ 1 rfl rfl rfl (by omega) ?_)
          | ((with_reducible refine at_load ?_); refine w_rowload _ (u := .int .i64 b) rfl rfl rfl hat rfl (agg_of (by kernel_rfl)) ?_)
          | (refine w_nstore (i := j) (j := 1) _ _ rfl rfl rfl rfl rfl rfl (by kernel_rfl) hrow hgk hjr'.out (by omega) ?_; intro w13 hm2 hn; replace hrow := hn; replace hm := hm.trans hm2 (fun i _ e => e ▸ hgk); clear hm2 hn hat f7w)
          | fail) <;> (try simp only [Act.put, List.setIfInBounds_toArray, List.set_cons_zero, List.set_cons_succ]))
        go_roundw
        case rel => exact ⟨j + 1, _, by go_num, hlt'.out, by rw [List.length_set]; exact hrl'.out, htw'.out.set hjr'.out hab'.out, hrow, hm⟩
        case measure => have := hlt'.out; simp [RowKit.intOf]; omega
      obtain rfl : j = d.txs.length := by omega
      have t3 : decide (d.txs.length < d.txs.length) = false := by simp
      replace hN := hN.own hm
      replace f6 := f6.mod hm nc6.out
      replace s8 := s8.mod hm (fun j hj => b8.out j hj)
      replace s11 := s11.mod hm (fun j hj => b11.out j hj)
      have hT := hN.tr
      have hKK := hN.kk.recs hN.out.ext
      have hVV := hN.kv.recs hN.out.ext
      have f4 := hN.f5
      have huw := hu.out.ext TxR.stays hN.out.ext
      obtain ⟨WN, hWN⟩ : ∃ L, V2.map BlkD.name = L := ⟨_, rfl⟩
      obtain ⟨MN, hMN⟩ : ∃ L, TrS.missing ⟨K2, V2⟩ = L := ⟨_, rfl⟩
      obtain ⟨T, hTe⟩ : ∃ L, TrS.tip K2 = L := ⟨_, rfl⟩
      obtain ⟨nm, hnm⟩ : ∃ L, d.name = L := ⟨_, rfl⟩
      obtain ⟨y, hy⟩ : ∃ L, getOr K2 nm = L := ⟨_, rfl⟩
      obtain ⟨q, hq⟩ : ∃ L, TrS.has K2 nm = L := ⟨_, rfl⟩
      have hnI : I64 nm := hnm ▸ name_i64 d
      have hW1 := hide_ (fun w' (h : Ext wr w') => hWN ▸ Waiting_any (hT.ext h))
      have hW2 := hide_ (fun w' (h : Ext wr w') => hWN ▸ refWaiting_any (vk := vk1) (hVV.ext BlkR.stays h) hfew2.out)
      have hM1 := hide_ (fun w' (h : Ext wr w') => hMN ▸ Missing_any (hT.ext h) hcalm.out)
      have hM2 := hide_ (fun w' (h : Ext wr w') => hMN ▸ refMissing_any (hKK.ext BlkR.stays h) (hVV.ext BlkR.stays h) hfew2.out)
      have hT1 := hide_ (fun w' (h : Ext wr w') => hTe ▸ Tip_any (hT.ext h))
      have hT2 := hide_ (fun w' (h : Ext wr w') => hTe ▸ refTip_any (vw := vw1) huq2.out (hKK.ext BlkR.stays h) hroom2.out)
      have hB1 := hide_ (fun w' (h : Ext wr w') => hnm ▸ refBName_any (b := d) (u := u) (huw.ext TxR.stays h) hraw.out.1.parent)
      have hG1 := hide_ (fun w' (h : Ext wr w') => hy ▸ hq ▸ Get_any (n := nm) (hT.ext h) hnI)
      have hG2 := hide_ (fun w' (h : Ext wr w') => gotH (vw := vw1) (n := nm) hy hq (hN.out.ext.trans h) (hN.kk.recsC.ext BlkC.stays h))
      have hJ8 := hide_ s8.sl
      have hJ11 := hide_ s11.sl
      replace hN := hide_ hN
      have hX := Ext.refl wr
      clear hge hj hrl htw hrow hm hT hKK hVV huw hWN hMN hTe hnm hy hq hnI s8 s11
      go_wp2
      refine wp_region_phx (by kernel_rfl) ?_; intro wd hxd; have F4 := f4.ext hxd
      refine Ph.rest 0 32 (by kernel_rfl) ?_
      refine LinL.step (s := (.val (.bool okv))) [(9, none)] rfl (by kernel_rfl) (op_out 9 (.bool okv) rfl (.inl rfl) rfl) ?_
      refine LinL.step (s := (.val (.bool okv))) [(12, none)] rfl (by kernel_rfl) (op_out 12 (.bool okv) rfl (.inl rfl) rfl) ?_
      refine LinL.step (s := (.val (.bool false))) [(63, some 1), (64, some 0)] rfl (by kernel_rfl) (op_runs rfl fun σ w' hx hg => ⟨(.bool false), by have h63 : σ.tmps.getD 63 undef = .bool okv := hg.1; have h64 : σ.tmps.getD 64 undef = .bool okv := hg.2.1; unfold Runs execOp; simp [Act.eval, h63, h64, go_sem], rfl⟩) ?_
      refine LinL.step (s := (.val (.bool false))) [(65, some 0)] rfl (by kernel_rfl) (op_copy 65 0 (.val (.bool false)) rfl (.inl rfl) rfl) ?_
      refine LinL.step (s := (.val (v10))) [(8, none), (66, some 0)] rfl (by kernel_rfl) (op_yes (reads := [(8, none)]) 3 66 0 false rfl rfl rfl (op_out 8 (v10) rfl (.inl rfl) rfl)) ?_
      refine LinL.step (s := (.val (v1))) [(11, none), (66, some 1)] rfl (by kernel_rfl) (op_yes (reads := [(11, none)]) 3 66 1 false rfl rfl rfl (op_out 11 (v1) rfl (.inl rfl) rfl)) ?_
      refine LinL.step (s := (.val (.bool true))) [(67, some 1), (68, some 0), (66, some 2)] rfl (by kernel_rfl) (op_yes (reads := [(67, some 1), (68, some 0)]) 3 66 2 false rfl rfl rfl (op_calls 27 #[(.tmp 67), (.tmp 68)] #[32, 32] (fun σ => #[v10, v1]) rfl rfl (fun _ _ => rfl) fun σ w' hx hg => ⟨by have h67 : σ.tmps.getD 67 undef = v10 := hg.1; have h68 : σ.tmps.getD 68 undef = v1 := hg.2.1; simp only [List.map_toArray, List.map_cons, List.map_nil, Act.eval, h67, h68], retH (SameInts_any v10 v1 Ln _ (hJ8.out.ext (hX.trans (hxd.trans hx))) (hJ11.out.ext (hX.trans (hxd.trans hx))))⟩)) ?_
      refine LinL.step (s := (.val (.bool false))) [(69, some 0), (66, some 3)] rfl (by kernel_rfl) (op_yes (reads := [(69, some 0)]) 3 66 3 false rfl rfl rfl (op_runs rfl fun σ w' hx hg => ⟨(.bool false), by have h69 : σ.tmps.getD 69 undef = .bool true := hg.1; unfold Runs execOp; simp [Act.eval, h69, go_sem], rfl⟩)) ?_
      refine LinL.step (s := (.val (.bool false))) [(66, some 4), (70, some 0)] rfl (by kernel_rfl) (op_runs rfl fun σ w' hx hg => ⟨_, runs_pick_f (ρ := σ.eval) (w := w') (.tmp 66) (.const (.bool true)) (.tmp 70) rfl hg.1 hg.2.1, rfl⟩) ?_
      refine LinL.step (s := (.val (.bool false))) [(71, some 0)] rfl (by kernel_rfl) (op_copy 71 0 (.val (.bool false)) rfl (.inl rfl) rfl) ?_
      refine LinL.step (s := (.val (.pointer (some ⟨p, 0, none⟩)))) [(3, none), (72, some 0)] rfl (by kernel_rfl) (op_yes (reads := [(3, none)]) 9 72 0 false rfl rfl rfl (op_out 3 (.pointer (some ⟨p, 0, none⟩)) rfl (.inl rfl) rfl)) ?_
      refine LinL.step (s := (.sl (i64s WN))) [(73, some 0), (72, some 1)] rfl (by kernel_rfl) (op_yes (reads := [(73, some 0)]) 9 72 1 false rfl rfl rfl (op_calls 28 #[(.tmp 73)] #[49] (fun σ => #[.pointer (some ⟨p, 0, none⟩)]) rfl rfl (fun _ _ => rfl) fun σ w' hx hg => ⟨by have h73 : σ.tmps.getD 73 undef = .pointer (some ⟨p, 0, none⟩) := hg.1; simp only [List.map_toArray, List.map_cons, List.map_nil, Act.eval, h73], retSl (hW1.out w' (hX.trans (hxd.trans hx)))⟩)) ?_
      refine LinL.step (s := (.val (.agg #[vk1, vw1]))) [(4, none), (72, some 2)] rfl (by kernel_rfl) (op_yes (reads := [(4, none)]) 9 72 2 false rfl rfl rfl (op_runs rfl fun σ w' hx hg => ⟨_, runs_aload (ρ := σ.eval) (w := w') Try.stDoc (.tmp 4) rfl hg.1 (F4.ext hx) rfl, rfl⟩)) ?_
      refine LinL.step (s := (.sl (i64s WN))) [(75, some 0), (72, some 3)] rfl (by kernel_rfl) (op_yes (reads := [(75, some 0)]) 9 72 3 false rfl rfl rfl (op_calls 29 #[(.tmp 75)] #[52] (fun σ => #[.agg #[vk1, vw1]]) rfl rfl (fun _ _ => rfl) fun σ w' hx hg => ⟨by have h75 : σ.tmps.getD 75 undef = .agg #[vk1, vw1] := hg.1; simp only [List.map_toArray, List.map_cons, List.map_nil, Act.eval, h75], retSl (hW2.out w' (hX.trans (hxd.trans hx)))⟩)) ?_
      refine LinL.step (s := (.val (.bool true))) [(74, some 2), (76, some 0), (72, some 4)] rfl (by kernel_rfl) (op_yes (reads := [(74, some 2), (76, some 0)]) 9 72 4 false rfl rfl rfl (op_calls 27 #[(.tmp 74), (.tmp 76)] #[32, 32] (fun σ => #[σ.tmps.getD 74 undef, σ.tmps.getD 76 undef]) rfl rfl (fun _ _ => rfl) fun σ w' hx hg => ⟨by skip; simp only [List.map_toArray, List.map_cons, List.map_nil, Act.eval], retH (SameInts_any _ _ WN _ hg.1 hg.2.1)⟩)) ?_
      refine LinL.step (s := (.val (.bool false))) [(77, some 0), (72, some 5)] rfl (by kernel_rfl) (op_yes (reads := [(77, some 0)]) 9 72 5 false rfl rfl rfl (op_runs rfl fun σ w' hx hg => ⟨(.bool false), by have h77 : σ.tmps.getD 77 undef = .bool true := hg.1; unfold Runs execOp; simp [Act.eval, h77, go_sem], rfl⟩)) ?_
      refine LinL.step (s := (.val (.bool false))) [(72, some 6), (78, some 0)] rfl (by kernel_rfl) (op_runs rfl fun σ w' hx hg => ⟨_, runs_pick_f (ρ := σ.eval) (w := w') (.tmp 72) (.const (.bool true)) (.tmp 78) rfl hg.1 hg.2.1, rfl⟩) ?_
      refine LinL.step (s := (.val (.bool false))) [(79, some 0)] rfl (by kernel_rfl) (op_copy 79 0 (.val (.bool false)) rfl (.inl rfl) rfl) ?_
      refine LinL.step (s := (.val (.pointer (some ⟨p, 0, none⟩)))) [(3, none), (80, some 0)] rfl (by kernel_rfl) (op_yes (reads := [(3, none)]) 17 80 0 false rfl rfl rfl (op_out 3 (.pointer (some ⟨p, 0, none⟩)) rfl (.inl rfl) rfl)) ?_
      refine LinL.step (s := (.sl (i64s MN))) [(81, some 0), (80, some 1)] rfl (by kernel_rfl) (op_yes (reads := [(81, some 0)]) 17 80 1 false rfl rfl rfl (op_calls 30 #[(.tmp 81)] #[49] (fun σ => #[.pointer (some ⟨p, 0, none⟩)]) rfl rfl (fun _ _ => rfl) fun σ w' hx hg => ⟨by have h81 : σ.tmps.getD 81 undef = .pointer (some ⟨p, 0, none⟩) := hg.1; simp only [List.map_toArray, List.map_cons, List.map_nil, Act.eval, h81], retSl (hM1.out w' (hX.trans (hxd.trans hx)))⟩)) ?_
      refine LinL.step (s := (.val (.agg #[vk1, vw1]))) [(4, none), (80, some 2)] rfl (by kernel_rfl) (op_yes (reads := [(4, none)]) 17 80 2 false rfl rfl rfl (op_runs rfl fun σ w' hx hg => ⟨_, runs_aload (ρ := σ.eval) (w := w') Try.stDoc (.tmp 4) rfl hg.1 (F4.ext hx) rfl, rfl⟩)) ?_
      refine LinL.step (s := (.sl (i64s MN))) [(83, some 0), (80, some 3)] rfl (by kernel_rfl) (op_yes (reads := [(83, some 0)]) 17 80 3 false rfl rfl rfl (op_calls 31 #[(.tmp 83)] #[52] (fun σ => #[.agg #[vk1, vw1]]) rfl rfl (fun _ _ => rfl) fun σ w' hx hg => ⟨by have h83 : σ.tmps.getD 83 undef = .agg #[vk1, vw1] := hg.1; simp only [List.map_toArray, List.map_cons, List.map_nil, Act.eval, h83], retI (hM2.out w' (hX.trans (hxd.trans hx)))⟩)) ?_
      refine LinL.step (s := (.val (.bool true))) [(82, some 2), (84, some 0), (80, some 4)] rfl (by kernel_rfl) (op_yes (reads := [(82, some 2), (84, some 0)]) 17 80 4 false rfl rfl rfl (op_calls 27 #[(.tmp 82), (.tmp 84)] #[32, 32] (fun σ => #[σ.tmps.getD 82 undef, σ.tmps.getD 84 undef]) rfl rfl (fun _ _ => rfl) fun σ w' hx hg => ⟨by skip; simp only [List.map_toArray, List.map_cons, List.map_nil, Act.eval], retH (SameInts_any _ _ MN _ hg.1 hg.2.1)⟩)) ?_
      refine LinL.step (s := (.val (.bool false))) [(85, some 0), (80, some 5)] rfl (by kernel_rfl) (op_yes (reads := [(85, some 0)]) 17 80 5 false rfl rfl rfl (op_runs rfl fun σ w' hx hg => ⟨(.bool false), by have h85 : σ.tmps.getD 85 undef = .bool true := hg.1; unfold Runs execOp; simp [Act.eval, h85, go_sem], rfl⟩)) ?_
      refine LinL.step (s := (.val (.bool false))) [(80, some 6), (86, some 0)] rfl (by kernel_rfl) (op_runs rfl fun σ w' hx hg => ⟨_, runs_pick_f (ρ := σ.eval) (w := w') (.tmp 80) (.const (.bool true)) (.tmp 86) rfl hg.1 hg.2.1, rfl⟩) ?_
      refine LinL.step (s := (.val (.bool false))) [(87, some 0)] rfl (by kernel_rfl) (op_copy 87 0 (.val (.bool false)) rfl (.inl rfl) rfl) ?_
      refine LinL.step (s := (.val (.pointer (some ⟨p, 0, none⟩)))) [(3, none), (88, some 0)] rfl (by kernel_rfl) (op_yes (reads := [(3, none)]) 25 88 0 false rfl rfl rfl (op_out 3 (.pointer (some ⟨p, 0, none⟩)) rfl (.inl rfl) rfl)) ?_
      refine LinL.step (s := (.val (.int .i64 T))) [(89, some 0), (88, some 1)] rfl (by kernel_rfl) (op_yes (reads := [(89, some 0)]) 25 88 1 false rfl rfl rfl (op_calls 32 #[(.tmp 89)] #[49] (fun σ => #[.pointer (some ⟨p, 0, none⟩)]) rfl rfl (fun _ _ => rfl) fun σ w' hx hg => ⟨by have h89 : σ.tmps.getD 89 undef = .pointer (some ⟨p, 0, none⟩) := hg.1; simp only [List.map_toArray, List.map_cons, List.map_nil, Act.eval, h89], retH (hT1.out w' (hX.trans (hxd.trans hx)))⟩)) ?_
      refine LinL.step (s := (.val (.agg #[vk1, vw1]))) [(4, none), (88, some 2)] rfl (by kernel_rfl) (op_yes (reads := [(4, none)]) 25 88 2 false rfl rfl rfl (op_runs rfl fun σ w' hx hg => ⟨_, runs_aload (ρ := σ.eval) (w := w') Try.stDoc (.tmp 4) rfl hg.1 (F4.ext hx) rfl, rfl⟩)) ?_
      refine LinL.step (s := (.val (.int .i64 T))) [(91, some 0), (88, some 3)] rfl (by kernel_rfl) (op_yes (reads := [(91, some 0)]) 25 88 3 false rfl rfl rfl (op_calls 33 #[(.tmp 91)] #[52] (fun σ => #[.agg #[vk1, vw1]]) rfl rfl (fun _ _ => rfl) fun σ w' hx hg => ⟨by have h91 : σ.tmps.getD 91 undef = .agg #[vk1, vw1] := hg.1; simp only [List.map_toArray, List.map_cons, List.map_nil, Act.eval, h91], retH (hT2.out w' (hX.trans (hxd.trans hx)))⟩)) ?_
      refine LinL.step (s := (.val (.bool false))) [(90, some 2), (92, some 0), (88, some 4)] rfl (by kernel_rfl) (op_yes (reads := [(90, some 2), (92, some 0)]) 25 88 4 false rfl rfl rfl (op_runs rfl fun σ w' hx hg => ⟨(.bool false), by have h90 : σ.tmps.getD 90 undef = .int .i64 T := hg.1; have h92 : σ.tmps.getD 92 undef = .int .i64 T := hg.2.1; unfold Runs execOp; simp [Act.eval, h90, h92, go_sem], rfl⟩)) ?_
      refine LinL.step (s := (.val (.bool false))) [(88, some 5), (93, some 0)] rfl (by kernel_rfl) (op_runs rfl fun σ w' hx hg => ⟨_, runs_pick_f (ρ := σ.eval) (w := w') (.tmp 88) (.const (.bool true)) (.tmp 93) rfl hg.1 hg.2.1, rfl⟩) ?_
      intro wN hxN
      simp only [Fin', List.reverse_cons, List.reverse_nil, List.nil_append, List.cons_append, List.drop_zero, List.take_succ_cons, List.take_zero]
      intro q74 hq74 q76 hq76 q82 hq82 q84 hq84
      simp only [Act.put, List.setIfInBounds_toArray, List.set_cons_zero, List.set_cons_succ]
      replace hX := hX.trans (hxd.trans hxN)
      replace f4 := f4.ext (hxd.trans hxN)
      replace f6 := f6.ext (hxd.trans hxN)
      clear hxd hxN F4
      go_wp2_with ((first
        | ((with_reducible refine at_load ?_); refine w_aload Try.stBlk (.tmp 6) rfl rfl rfl f6 rfl ?_)
        | (go_at_call 35; refine (hB1.out _ hX).mono ?_; rintro e w14 ⟨rfl, hx⟩; replace hX := hX.trans hx; replace f4 := f4.ext hx; replace f6 := f6.ext hx; clear hx)
        | (go_at_call 34; refine (hG1.out _ hX).mono ?_; rintro e w15 ⟨u14, rfl, o14, hx⟩; replace o14 := o14.recs; have one14 := blk_one (a := y.slot) (b := y.miner) (c := y.var) (d := y.parent) o14.one'; replace hX := hX.trans hx; replace f4 := f4.ext hx; replace f6 := f6.ext hx; clear hx)
        | ((with_reducible refine at_alloc ?_); refine w_alloc Try.stBlk rfl rfl ?_; intro g14 w16 hg14 hx f14)
        | ((with_reducible refine at_store ?_); refine w_astore Try.stBlk _ _ (us := bRow y u14) rfl rfl rfl rfl rfl f14 rfl rfl one14 ?_; intro w17 hm3 f9; replace hx := hm3.after hx (fun i hi => by subst hi; exact hg14); replace f14 : Fs w17 g14 (bRow y u14) := f9; replace hX := hX.trans hx; replace f4 := f4.ext hx; replace f6 := f6.ext hx; replace o14 := o14.ext TxR.stays hx; clear hx hm3 f9 hg14 one14)
        | fail) <;> (try simp only [Act.put, List.setIfInBounds_toArray, List.set_cons_zero, List.set_cons_succ]))
      refine wp_region_val [0, 1, 2, 3, 4, 5, 6, 7, 9] (fun i => [103, 104, 105, 106, 102, 107, 108, 16, 0, 17].getD i 0) (V22 W vk1 vw1 d u nm y q) 7 8 [.int .i64 0, .int .i64 0, .int .i64 0, .int .i64 0, .slice none 0 0] (fun cs => ∃ u16, cs = bRow y u16 ∧ Recs 2 TxR W u16 y.txs) (by kernel_rfl) (by kernel_rfl) (by kernel_rfl) (by decide) (by decide) (by decide) (by intro i hi; show _ < 124; revert i; decide) (by kernel_rfl) (by decide) (by kernel_rfl) ?_ ?_ ?_ ?_
      · intro i hi ha b w' hx hout hdep
        rcases (show i = 0 ∨ i = 1 ∨ i = 2 ∨ i = 3 ∨ i = 4 ∨ i = 5 ∨ i = 6 ∨ i = 9 by simp at hi; omega) with rfl | rfl | rfl | rfl | rfl | rfl | rfl | rfl
        · have e4 : b.tmps.getD 4 undef = .pointer (some ⟨g4, 0, none⟩) := hout 4 (by decide)
          refine wpOp_of_list rfl ?_
          refine w_aload Try.stDoc (.tmp 4) rfl rfl e4 (f4.ext hx) rfl ?_
          exact ⟨_, rfl, rfl, Ext.refl _⟩
        · have e6 : b.tmps.getD 6 undef = .pointer (some ⟨g6, 0, none⟩) := hout 6 (by decide)
          refine wpOp_of_list rfl ?_
          refine w_aload Try.stBlk (.tmp 6) rfl rfl e6 (f6.ext hx) rfl ?_
          exact ⟨_, rfl, rfl, Ext.refl _⟩
        · have e1 : b.tmps.getD 104 undef = .agg (bRow d u).toArray := hdep 1 (by decide) (by decide) (by kernel_rfl)
          refine wpOp_call 35 #[.agg (bRow d u).toArray] 105 rfl rfl rfl rfl (fun _ _ => rfl) (by simp only [List.map_toArray, List.map_cons, List.map_nil, Act.eval, e1]) ?_
          refine (hB1.out w' (hX.trans hx)).mono ?_
          rintro e w'' ⟨rfl, hx2⟩
          exact ⟨_, rfl, _, rfl, rfl, hx2⟩
        · have e0 : b.tmps.getD 103 undef = .agg #[vk1, vw1] := hdep 0 (by decide) (by decide) (by kernel_rfl)
          have e2 : b.tmps.getD 105 undef = .int .i64 nm := hdep 2 (by decide) (by decide) (by kernel_rfl)
          refine wpOp_call 36 #[.agg #[vk1, vw1], .int .i64 nm] 106 rfl rfl rfl rfl (fun _ _ => rfl) (by simp only [List.map_toArray, List.map_cons, List.map_nil, Act.eval, e0, e2]) ?_
          refine (hG2.out w' (hX.trans hx)).mono ?_
          rintro e w'' ⟨v', rfl, hx2, hv⟩
          exact ⟨v', rfl, _, rfl, hv, hx2⟩
        · have e3 := hdep 3 (by decide) (by decide) (by kernel_rfl)
          refine wpOp_of_list rfl ?_
          refine w_mvH (.tmp 106) rfl (.inl rfl) rfl ?_
          exact ⟨_, rfl, e3, Ext.refl _⟩
        · obtain ⟨u', hu', hr'⟩ := hdep 4 (by decide) (by decide) (by kernel_rfl)
          refine wpOp_of_list rfl ?_
          refine wpList_runs rfl (runs_extract rfl hu' rfl) ?_
          exact ⟨_, rfl, ⟨u', rfl, hr'⟩, Ext.refl _⟩
        · obtain ⟨u', hu', hr'⟩ := hdep 4 (by decide) (by decide) (by kernel_rfl)
          refine wpOp_of_list rfl ?_
          refine wpList_runs rfl (runs_extract rfl hu' rfl) ?_
          exact ⟨_, rfl, rfl, Ext.refl _⟩
        · have e6 : b.tmps.getD 108 undef = .bool q := hdep 6 (by decide) (by decide) (by kernel_rfl)
          refine wpOp_of_list rfl ?_
          refine w_mvH (.tmp 108) rfl (.inr rfl) e6 ?_
          exact ⟨_, rfl, rfl, Ext.refl _⟩
      · intro b w'
        refine wpOp_of_list rfl ?_
        refine w_alloc Try.stBlk rfl rfl ?_
        intro g w2 hg hx f
        exact ⟨g, rfl, hg, hx, f⟩
      · intro b w' g hx e16 f hdep
        obtain ⟨u', hu', hr'⟩ := hdep 5 (by decide) (by decide) (by kernel_rfl)
        refine wpOp_of_list rfl ?_
        refine w_astore Try.stBlk (.tmp 16) (.tmp 107) (us := bRow y u') rfl rfl rfl e16 hu' f rfl rfl (blk_one (a := y.slot) (b := y.miner) (c := y.var) (d := y.parent) hr'.one') ?_
        intro w2 hm f2
        exact ⟨_, rfl, hm, f2, u', rfl, hr'⟩
      intro w18 x hx hv hc
      obtain ⟨g16, cs, e16, hg16, f16, u16, rfl, o16⟩ := hc
      have e9 : x 9 = .bool q := hv 9 (by decide) (by decide)
      simp only [List.foldl_cons, List.foldl_nil, e16, e9]
      generalize x 0 = x0
      generalize x 1 = x1
      generalize x 2 = x2
      generalize x 3 = x3
      generalize x 4 = x4
      generalize x 5 = x5
      generalize x 6 = x6
      simp only [List.getD_cons_zero, List.getD_cons_succ, Act.put, List.setIfInBounds_toArray, List.set_cons_zero, List.set_cons_succ]
      clear hv hg16
      replace hX := hX.trans hx
      replace f4 := f4.ext hx
      replace o14 := o14.ext TxR.stays hx
      replace f14 := f14.ext hx
      clear hx
      go_wp2_with ((first
        | ((with_reducible refine at_load ?_); (try refine w_yes _ _ _ rfl rfl rfl ?_); refine w_aload Try.stBlk (.tmp 14) rfl rfl rfl f14 rfl ?_)
        | ((with_reducible refine at_load ?_); (try refine w_yes _ _ _ rfl rfl rfl ?_); refine w_aload Try.stBlk (.tmp 16) rfl rfl rfl f16 rfl ?_)
        | ((try refine w_yes _ _ _ rfl rfl rfl ?_); go_at_call 37; refine (refBSame_any (b := y) (b2 := y) (u := u14) (u2 := u16) o14 (o16.ext TxR.stays (hN.out.out.ext.trans hX))).mono ?_; rintro e w20 ⟨rfl, hx⟩; rw [BlkD.same_self]; replace hX := hX.trans hx; clear hx)
        | fail) <;> (try simp only [Act.put, List.setIfInBounds_toArray, List.set_cons_zero, List.set_cons_succ]))
      go_roundw
      case rel => exact ⟨k + 1, G2, _, _, by go_num, hlt'.out, by rw [hst.out]; exact (hN.out.take (X' := fun _ => False) hX fun _ h => h.elim)⟩
      case measure => have := hlt'.out; simp [RowKit.intOf]; omega

set_option maxRecDepth 100000 in
theorem treeAdds_lifted (os : Os) (started : os.Started) (H : Type) (enc : TypeId × Value → H) :
    ReturnsInHanded {} Try.checked os 9 .any (Rows.treeAddsSpec.pre6 enc Try.prog Try.f9 Rows.treeAddsRow.domain false) (Rows.treeAddsSpec.post enc Try.prog Try.f9 false true false false) := by
  refine law_lifted (s := Rows.treeAddsSpec) (conds := Rows.treeAddsRow.domain) Try.func9 (by kernel_rfl) rfl (fun H ds h => by
      rw [show Try.f9.params.size = 1 from rfl] at h
      match ds, h with
      | [d0], _ => rfl) rfl rfl (by decide +kernel) os started H enc
    (ChangeSpec.witness6 (enc := enc) (C := Try.checked) false ⟨#[], #[.slice none 0 0], []⟩ 8 (by kernel_rfl) (by kernel_rfl) (by kernel_rfl) (by kernel_rfl)) ?_
  intro W base args ds p hval hA hsz _
  have hp : Try.f9.params.toList = [48] := rfl
  rw [hp] at hA hsz
  obtain ⟨v0, d0, rfl, rfl, h0⟩ := trodAll_one hA
  obtain ⟨l0, k0⟩ := arg_Blks hsz (j := 0) rfl rfl (hval 0 48 v0 rfl rfl) h0
  exact treeAdds_law v0 l0 W k0

theorem treeAdds_holds : Rows.TreeAddsSaid :=
  OpenClaim.holds_of_wide 9 Try.f9 rfl rfl rfl rfl rfl rfl rfl ⟨rfl, rfl, rfl, rfl, rfl⟩ rfl rfl rfl rfl rfl (by kernel_rfl) Try.func9 (by kernel_rfl)
    (of_decide_eq_true (by kernel_rfl)) (by unfold Func.isWrapper; first | (rw [if_pos (by decide +kernel)]; kernel_rfl) | (rw [if_neg (by decide +kernel)]; exact ⟨rfl, rfl⟩))
    (fun os started H enc _ => treeAdds_lifted os started H enc)
#print axioms treeAdds_holds

end Go.Proofs.Ytdacclcaopmalaa
