/- The parameters of the statements on cores: who a core is, what happens to it. · Votes counted, as plain mathematics: over a table of first votes (who voted what in which kind and view). No program. · Plain mathematics of view: whose turn it is, how long one waits, what is left behind a tick. No condition. · One node's part in deciding, index by index, as plain mathematics: what it does with a message, with a tick, with what a journal tells. No program. · What a core says can be: of an index and a view that it has come to; and how much it can do behind one thing. No program. · A message, a tick: what a core says of itself can be. No program. · Which messages can be, kind by kind. No program. · A core's messages as messages of layer 12: what can be said is Right, what is Right and of a vote's kind can be heard. No program. -/
import Derived.Test.YtajkjiegcmpjaaaGreatPk06
import Derived.Test.YtajkjiegcmpjaaaGreatSTK
import Derived.Test.YtajkjiegcmpjaaaGreatFA
namespace Go.Proofs.YtajkjiegcmpjaaaGreat
set_option maxRecDepth 100000
open Go.RowKit Go.ChangeShapes Go.WideShapes Go.ChangeAt
section
variable {H : Type} {enc : TypeId × Value → H} {W : World}
theorem rd_ints {fuel : Nat} {v : Value} {d : DataW H} {pl : List MemPlace} (hf : DataW.trod enc Tryz.prog W 0 (fun _ => true) true fuel 22 [v] = some (d, pl)) (hw : Fits Tryz.prog 22 d) : ∃ l : List Int, Ints W v l ∧ (∀ x ∈ l, -9223372036854775808 ≤ x ∧ x ≤ 9223372036854775807) ∧ l.length * 8 ≤ 140737488351232 := by
  rcases open_ints Tryz.underlying22 Tryz.underlying3 (by kernel_rfl) hf with ⟨h1, _⟩ | ⟨a, len, cap, zs, h1, _, hlc, hcm, hzl, hx, hc, hwf⟩
  · injection h1 with h1
    subst h1
    exact ⟨[], Ints.nil W, by simp, by simp⟩
  · injection h1 with h1
    subst h1
    simp only [if_true] at hzl
    have hwn : ∀ n ∈ zs, -9223372036854775808 ≤ n ∧ n ≤ 9223372036854775807 := fun n hn => by
      have := hwf n hn
      simp [Lit.wf, IntKind.min, IntKind.max, IntKind.signed, IntKind.bits] at this
      omega
    have hd2 : d = .slice (lits .i64 (zs.take len)) (lits .i64 (zs.drop len)) := congrArg Prod.fst hx
    subst hd2
    have hz2 := hw.slice Tryz.underlying22
    have hb5 : Tryz.prog.bytesOf 3 = 8 := by kernel_rfl
    have hreach : reachBytes = 140737488351232 := rfl
    rw [hb5, hreach] at hz2
    simp only [lits, List.length_map, List.length_take, List.length_drop] at hz2
    refine ⟨zs.take len, ?_, fun x hx' => hwn x (List.mem_of_mem_take hx'), by simp; omega⟩
    refine ⟨some a, cap, by simp [i64s]; omega, by simp [i64s]; omega, hcm, fun k u hk => ⟨a, rfl, ?_⟩⟩
    rw [i64s, List.getElem?_map, List.getElem?_take] at hk
    split at hk
    · rw [hc k (by omega)]
      have hkz : k < zs.length := by omega
      rw [List.getElem?_eq_getElem hkz] at hk
      simp at hk
      subst hk
      simp [List.getD, List.getElem?_eq_getElem hkz]
    · simp at hk
structure CfD where
  me : Int
  base : Int
  most : Int
  st : List Int
def CfD.row (g : CfD) (u : Value) : List Value := [.int .i64 g.me, .int .i64 g.base, .int .i64 g.most, u]
def CfR (w : World) (row : List Value) (g : CfD) : Prop := (∃ u, row = g.row u ∧ Ints w u g.st) ∧ I64s g.st ∧ g.st.length * 8 ≤ 140737488351232
theorem Tryz.stCf : St Tryz.prog 24 4 [.int .i64 0, .int .i64 0, .int .i64 0, .slice none 0 0] := St.of (by kernel_rfl) (by kernel_rfl) rfl
theorem rd_Cf {fuel : Nat} {cs : List Value} {y : DataW H × List MemPlace} (hlen : cs.length = 4) (hy : DataW.trod enc Tryz.prog W 0 (fun _ => true) true fuel 24 cs = some y) (hw : Fits Tryz.prog 24 y.1) : ∃ d, CfR W cs d := by
  obtain ⟨xs, m, _, rfl, _, hxl, hf⟩ := DataW.trod_struct Tryz.underlying24 hy
  match xs, hxl, cs, hlen with
  | [y0, y1, y2, y3], _, [c0, c1, c2, c3], _ =>
    have k0 : DataW.trod enc Tryz.prog W 0 (fun _ => true) true m 3 [c0] = some y0 := hf 0 _ rfl
    have k1 : DataW.trod enc Tryz.prog W 0 (fun _ => true) true m 3 [c1] = some y1 := hf 1 _ rfl
    have k2 : DataW.trod enc Tryz.prog W 0 (fun _ => true) true m 3 [c2] = some y2 := hf 2 _ rfl
    have k3 : DataW.trod enc Tryz.prog W 0 (fun _ => true) true m 22 [c3] = some y3 := hf 3 _ rfl
    simp only [List.map_cons, List.map_nil] at hw
    obtain ⟨a0, e0, _, b0⟩ := DataW.trod_int Tryz.underlying3 k0
    obtain ⟨a1, e1, _, b1⟩ := DataW.trod_int Tryz.underlying3 k1
    obtain ⟨a2, e2, _, b2⟩ := DataW.trod_int Tryz.underlying3 k2
    injection e0 with e0 _
    injection e1 with e1 _
    injection e2 with e2 _
    subst e0 e1 e2
    obtain ⟨l3, g3, s3, t3⟩ := rd_ints (d := y3.1) (pl := y3.2) k3 (hw.part Tryz.underlying24 (j := 3) rfl rfl)
    exact ⟨⟨a0, a1, a2, l3⟩, ⟨c3, rfl, g3⟩, s3, t3⟩
theorem arg_Cf {base : Nat} {v : Value} {d : DataW H} {ps : List MemPlace} {ts : List TypeId} {ds : List (DataW H)} (hsz : (DataW.weightsEach Tryz.prog ts ds).all (· ≤ reachBytes) = true) {j : Nat} (ht : ts[j]? = some 24) (hd : ds[j]? = some d)
    (hval : Value.okWide Tryz.prog W .any base 24 v) (h : DataW.Trod enc Tryz.prog W 0 (fun _ => true) true 24 v d ps) : ∃ (row : List Value) (x : CfD), v = .agg row.toArray ∧ row.length = 4 ∧ CfR W row x := by
  have hu := Tryz.underlying24
  simp only [Value.okWide, hu] at hval
  obtain ⟨cs, rfl, hcs, _⟩ := hval
  have hc : Tryz.prog.cellsOf 24 = 4 := by kernel_rfl
  rw [hc] at hcs
  obtain ⟨fuel, hf⟩ := h
  obtain ⟨x, hx⟩ := rd_Cf (cs := cs.toList) (by simpa using hcs) hf (fits_arg hsz ht hd)
  exact ⟨cs.toList, x, by simp, by simpa using hcs, hx⟩
structure AcE where
  k : Int
  n : Int
  m : MsgD
instance : Inhabited AcE := ⟨⟨0, 0, MsgD.zero⟩⟩
def AcE.row (d : AcE) (u : Value) : List Value := [.int .i64 d.k, .int .i64 d.n] ++ mRow d.m u
def AcER (w : World) (row : List Value) (d : AcE) : Prop := (∃ u, row = d.row u ∧ Recs 2 TxR w u d.m.bk.txs) ∧ d.m.Raw ∧ I64 d.k ∧ I64 d.n
theorem AcER.stays : Stays AcER := fun _ _ _ _ ⟨⟨u, h1, h2⟩, h4⟩ he => ⟨⟨u, h1, h2.ext TxR.stays he⟩, h4⟩
theorem Tryz.elAcE : ElS Tryz.prog 56 58 15 := ElS.of Tryz.underlying56 (by kernel_rfl)
theorem Tryz.stAcE : StN Tryz.prog 58 15 (.int .i64 0 :: .int .i64 0 :: mZero) := StN.of (by kernel_rfl) (by kernel_rfl) rfl
theorem rd_AcE {fuel : Nat} {cs : List Value} {y : DataW H × List MemPlace} (hlen : cs.length = 15) (hy : DataW.trod enc Tryz.prog W 0 (fun _ => true) true fuel 58 cs = some y) (hw : Fits Tryz.prog 58 y.1) : ∃ d, AcER W cs d := by
  obtain ⟨xs, m, _, rfl, _, hxl, hf⟩ := DataW.trod_struct Tryz.underlying58 hy
  match xs, hxl, cs, hlen with
  | [y0, y1, y2], _, [c0, c1, c2, c3, c4, c5, c6, c7, c8, c9, c10, c11, c12, c13, c14], _ =>
    have k0 : DataW.trod enc Tryz.prog W 0 (fun _ => true) true m 3 [c0] = some y0 := hf 0 _ rfl
    have k1 : DataW.trod enc Tryz.prog W 0 (fun _ => true) true m 3 [c1] = some y1 := hf 1 _ rfl
    have k2 : DataW.trod enc Tryz.prog W 0 (fun _ => true) true m 42 [c2, c3, c4, c5, c6, c7, c8, c9, c10, c11, c12, c13, c14] = some y2 := hf 2 _ rfl
    simp only [List.map_cons, List.map_nil] at hw
    obtain ⟨a0, e0, _, b0⟩ := DataW.trod_int Tryz.underlying3 k0
    injection e0 with e0 _
    subst e0
    obtain ⟨a1, e1, _, b1⟩ := DataW.trod_int Tryz.underlying3 k1
    injection e1 with e1 _
    subst e1
    obtain ⟨d, ⟨u, hrow, hr⟩, hraw⟩ := rd_Msg (y := y2) rfl k2 (hw.part Tryz.underlying58 (j := 2) rfl rfl)
    exact ⟨⟨a0, a1, d⟩, ⟨u, by unfold AcE.row; rw [← hrow]; rfl, hr⟩, hraw, i64_wf b0, i64_wf b1⟩
theorem arg_AcEs {base : Nat} {v : Value} {d : DataW H} {ps : List MemPlace} {ts : List TypeId} {ds : List (DataW H)} (hsz : (DataW.weightsEach Tryz.prog ts ds).all (· ≤ reachBytes) = true) {j : Nat} (ht : ts[j]? = some 56) (hd : ds[j]? = some d)
    (hval : Value.okWide Tryz.prog W .any base 56 v) (h : DataW.Trod enc Tryz.prog W 0 (fun _ => true) true 56 v d ps) : ∃ l : List AcE, Recs 15 AcER W v l := by
  obtain ⟨a0, len0, cap0, rfl⟩ := okWide_slice Tryz.underlying56 hval
  obtain ⟨fuel, hf⟩ := h
  obtain ⟨l, hl, _⟩ := rd_recs (n := 15) (R := AcER) Tryz.underlying56 (by kernel_rfl) (fun fuel cs y hlen hy hw => rd_AcE hlen hy hw) hf (fits_arg hsz ht hd)
  exact ⟨l, hl⟩
theorem w_AcEidx {P : Program} {ops : Array Oper} {rest : List Oper} {o : Oper} {a : Act} {Q : Exit → Act → World → Prop} {w W0 : World} {t e : TypeId} {v : Value} {l : List AcE} (E : ElS P t e 15) (x y : Operand) (i : Nat) (hgd : o.guard = none) (ho : o.op = .indexAddr t x y) (hv : a.eval x = v) (hy : a.eval y = .int .i64 i)
    (h : Recs 15 AcER W0 v l) (he : Ext W0 w) {d : AcE} (hd : l[i]? = some d) (k : ∀ p u, RowAt w p (d.row u) → Recs 2 TxR W0 u d.m.bk.txs → d.m.Raw → wpList P ops Q rest (a.put o.dst (.pointer (some p))) w) : wpList P ops Q (o :: rest) a w := by
  have hi := (List.getElem?_eq_some_iff.1 hd).1
  have e : l[i] = d := (List.getElem?_eq_some_iff.1 hd).2
  refine w_ridx0 E x y i AcER.stays hgd ho hv hy h he hi ?_
  rintro pa row hrow _ ⟨⟨u, rfl, hu⟩, hr, _⟩
  rw [e] at hrow hu hr
  exact k pa u (hrow.ext he) hu hr
structure NtE where
  k : Int
  to : Int
  n : Int
  m : MsgD
instance : Inhabited NtE := ⟨⟨0, 0, 0, MsgD.zero⟩⟩
def NtE.row (d : NtE) (u : Value) : List Value := [.int .i64 d.k, .int .i64 d.to, .int .i64 d.n] ++ mRow d.m u
def NtER (w : World) (row : List Value) (d : NtE) : Prop := (∃ u, row = d.row u ∧ Recs 2 TxR w u d.m.bk.txs) ∧ d.m.Raw ∧ I64 d.k ∧ I64 d.to ∧ I64 d.n
theorem NtER.stays : Stays NtER := fun _ _ _ _ ⟨⟨u, h1, h2⟩, h4⟩ he => ⟨⟨u, h1, h2.ext TxR.stays he⟩, h4⟩
end
end Go.Proofs.YtajkjiegcmpjaaaGreat
namespace Go.Proofs.YtajkjiegcmpjaaaGreat
set_option maxRecDepth 100000
structure VtD where
  k : Int
  w : Int
  f : Int
  x : Int
def Tab : Type := Int → Int → Nat → Option Int
namespace Tab
variable (g : Tab)
def has (k w x : Int) (i : Nat) : Bool := decide (g k w i = some x)
def any (k w : Int) (i : Nat) : Bool := (g k w i).isSome
def who (n : Nat) (k w x : Int) : List Int := picks (g.has k w x) n
def all (n : Nat) (k w : Int) : List Int := picks (g.any k w) n
def Mst (t : List Int) (k w x : Int) : Prop := most t (g.who t.length k w x) = true
def from' (w : Int) (i : Nat) : Bool := decide (∃ j : Nat, j ≤ 1000 ∧ w ≤ (j : Int) ∧ (g 4 j i ≠ none ∨ g 5 j i ≠ none))
def Ahd (t : List Int) (w : Int) : Prop := some3 t (picks (g.from' w) t.length) = true
variable {g}
theorem has_iff {k w x : Int} {i : Nat} : g.has k w x i = true ↔ g k w i = some x := by simp [has]
theorem Mst.one {t : List Int} (ht : StOk t) {k w x : Int} (h : g.Mst t k w x) : ∃ i, i < t.length ∧ g k w i = some x := by
  by_cases hc : ∃ i, i < t.length ∧ g k w i = some x
  · exact hc
  · exfalso
    have hz : sumS t (g.who t.length k w x) = 0 := by
      unfold who
      rw [sum_picks]
      have : ws t (g.has k w x) t.length = ws t (fun _ => false) t.length := ws_congr _ fun i hi => by
        cases hb : g.has k w x i with
        | false => rfl
        | true => exact absurd ⟨i, hi, has_iff.1 hb⟩ hc
      rw [this]
      have : ∀ n, ws t (fun _ => false) n = 0 := fun n => by
        induction n with
        | zero => rfl
        | succ n ih => rw [ws, ih]; simp
      exact this _
    have h1 := tot_pos ht
    unfold Mst most at h
    rw [hz] at h
    simp only [decide_eq_true_eq] at h
    omega
theorem Mst.uniq {t : List Int} (ht : StOk t) {k w x y : Int} (h : g.Mst t k w x) (h' : g.Mst t k w y) : x = y := by
  have hm := (two_meet ht _ _ h h').1
  have h1 := tot_pos ht
  by_cases e : x = y
  · exact e
  · exfalso
    have hz : sumS t (picks (fun i => inn (g.who t.length k w x) i && inn (g.who t.length k w y) i) t.length) = 0 := by
      rw [sum_picks]
      have : ws t (fun i => inn (g.who t.length k w x) i && inn (g.who t.length k w y) i) t.length = ws t (fun _ => false) t.length := ws_congr _ fun i hi => by
        simp only [who, inn_picks _ _ hi]
        cases h1 : g.has k w x i with
        | false => rfl
        | true =>
          cases h2 : g.has k w y i with
          | false => rfl
          | true =>
            have := (has_iff.1 h1).symm.trans (has_iff.1 h2)
            injection this with this
            exact absurd this e
      rw [this]
      have : ∀ n, ws t (fun _ => false) n = 0 := fun n => by
        induction n with
        | zero => rfl
        | succ n ih => rw [ws, ih]; simp
      exact this _
    unfold some3 at hm
    rw [hz] at hm
    simp only [decide_eq_true_eq] at hm
    omega
def Le (g g' : Tab) : Prop := ∀ k w i x, g k w i = some x → g' k w i = some x
theorem most_mono {t : List Int} (ht : StOk t) {p q : Nat → Bool} (h : ∀ i, i < t.length → p i = true → q i = true) (hm : most t (picks p t.length) = true) : most t (picks q t.length) = true := by
  have := ws_mono ht t.length h
  unfold most at hm ⊢
  simp only [sum_picks, decide_eq_true_eq] at hm ⊢
  omega
theorem some_mono {t : List Int} (ht : StOk t) {p q : Nat → Bool} (h : ∀ i, i < t.length → p i = true → q i = true) (hm : some3 t (picks p t.length) = true) : some3 t (picks q t.length) = true := by
  have := ws_mono ht t.length h
  unfold some3 at hm ⊢
  simp only [sum_picks, decide_eq_true_eq] at hm ⊢
  omega
theorem Le.mst {g g' : Tab} {t : List Int} (ht : StOk t) (h : Le g g') {k w x : Int} (hm : g.Mst t k w x) : g'.Mst t k w x :=
  most_mono ht (fun _ _ hi => has_iff.2 (h _ _ _ _ (has_iff.1 hi))) hm
theorem Le.none {g g' : Tab} (h : Le g g') {k w : Int} {i : Nat} (hn : g k w i ≠ none) : g' k w i ≠ none := by
  cases hg : g k w i with
  | none => exact absurd hg hn
  | some x => rw [h _ _ _ _ hg]; simp
theorem Le.ahd {g g' : Tab} {t : List Int} (ht : StOk t) (h : Le g g') {w : Int} (hm : g.Ahd t w) : g'.Ahd t w :=
  some_mono ht (fun i _ hi => by
    obtain ⟨j, h1, h2, h3⟩ := of_decide_eq_true hi
    exact decide_eq_true ⟨j, h1, h2, h3.imp h.none h.none⟩) hm
def mostOf (g : Tab) (t : List Int) (k w : Int) : Option Int := ((List.range t.length).findSome? fun i => match g k w i with
  | some x => if most t (g.who t.length k w x) then some x else Option.none
  | Option.none => Option.none)
theorem mostOf_iff {t : List Int} (ht : StOk t) {k w x : Int} : g.mostOf t k w = some x ↔ g.Mst t k w x := by
  constructor
  · intro h
    obtain ⟨i, _, hi⟩ := List.exists_of_findSome?_eq_some h
    cases hg : g k w i with
    | none => rw [hg] at hi; cases hi
    | some y =>
      rw [hg] at hi
      simp only at hi
      split at hi
      · rename_i hm; injection hi with hi; subst hi; exact hm
      · cases hi
  · intro h
    obtain ⟨i, hi, hg⟩ := h.one ht
    cases hr : g.mostOf t k w with
    | none =>
      unfold mostOf at hr
      rw [List.findSome?_eq_none_iff] at hr
      have := hr i (List.mem_range.2 hi)
      rw [hg] at this
      simp only at this
      rw [if_pos (show most t (g.who t.length k w x) = true from h)] at this
      cases this
    | some y =>
      obtain ⟨j, _, hj⟩ := List.exists_of_findSome?_eq_some hr
      cases hgj : g k w j with
      | none => rw [hgj] at hj; cases hj
      | some z =>
        rw [hgj] at hj
        simp only at hj
        split at hj
        · rename_i hm
          injection hj with hj
          subst hj
          exact congrArg some (Mst.uniq ht hm h)
        · cases hj
def commAt (g : Tab) (t : List Int) (j : Nat) : Option Int := match g.mostOf t 5 j with
  | some x => if x = -1 then Option.none else some x
  | Option.none => Option.none
theorem commAt_iff {t : List Int} (ht : StOk t) {j : Nat} {x : Int} : g.commAt t j = some x ↔ g.Mst t 5 j x ∧ x ≠ -1 := by
  rw [← mostOf_iff ht]
  unfold commAt
  cases h : g.mostOf t 5 j with
  | none => simp
  | some y =>
    simp only [Option.some.injEq]
    split
    · rename_i e; subst e; exact ⟨(fun h => nomatch h), fun h => absurd h.1.symm h.2⟩
    · rename_i e; rw [Option.some.injEq]; exact ⟨fun h => ⟨h, (by rw [← h]; exact e)⟩, fun h => h.1⟩
def commOf (g : Tab) (t : List Int) : Option Int := (List.range 1001).findSome? (g.commAt t)
theorem commOf_some {t : List Int} {x : Int} (h : g.commOf t = some x) : ∃ j : Nat, j ≤ 1000 ∧ g.commAt t j = some x := by
  obtain ⟨j, hj, hx⟩ := List.exists_of_findSome?_eq_some h
  exact ⟨j, by have := List.mem_range.1 hj; omega, hx⟩
theorem commOf_none {t : List Int} (h : g.commOf t = Option.none) : ∀ j : Nat, j ≤ 1000 → g.commAt t j = Option.none := fun j hj => by
  unfold commOf at h
  rw [List.findSome?_eq_none_iff] at h
  exact h j (List.mem_range.2 (by omega))
theorem findSome_first {α : Type} (f : Nat → Option α) : ∀ (n j : Nat) {x : α}, j < n → f j = some x → (∀ i, i < j → f i = Option.none) → (List.range n).findSome? f = some x
  | 0, j, _, h, _, _ => by omega
  | n + 1, j, x, h, hj, hl => by
    rw [List.range_succ, List.findSome?_append]
    by_cases hjn : j < n
    · rw [findSome_first f n j hjn hj hl]; rfl
    · obtain rfl : j = n := by omega
      have : (List.range j).findSome? f = Option.none := by
        rw [List.findSome?_eq_none_iff]
        exact fun i hi => hl i (List.mem_range.1 hi)
      rw [this]; simp [hj]
theorem commOf_first {t : List Int} {j : Nat} {x : Int} (hj : j ≤ 1000) (h : g.commAt t j = some x) (hl : ∀ i, i < j → g.commAt t i = Option.none) : g.commOf t = some x := findSome_first _ _ j (by omega) h hl
theorem Le.comm {g g' : Tab} {t : List Int} (ht : StOk t) (h : Le g g') (hc : g.commOf t ≠ Option.none) : g'.commOf t ≠ Option.none := by
  cases hx : g.commOf t with
  | none => exact absurd hx hc
  | some x =>
    obtain ⟨j, hj, hq⟩ := commOf_some hx
    have hm := (commAt_iff ht).1 hq
    intro hn
    have := commOf_none hn j hj
    rw [(commAt_iff ht).2 ⟨h.mst ht hm.1, hm.2⟩] at this
    cases this
def aheadTo (g : Tab) (t : List Int) (w : Int) : Nat → Int
  | 0 => w
  | n + 1 => if w < (n : Int) ∧ some3 t (picks (g.from' n) t.length) = true then (n : Int) else aheadTo g t w n
def aheadOf (g : Tab) (t : List Int) (w : Int) : Int := g.aheadTo t w 1001
theorem aheadTo_spec {t : List Int} {w : Int} : ∀ n : Nat, (g.aheadTo t w n = w ∧ ∀ j : Nat, j < n → w < (j : Int) → ¬ g.Ahd t j) ∨ (∃ m : Nat, m < n ∧ g.aheadTo t w n = (m : Int) ∧ w < (m : Int) ∧ g.Ahd t m ∧ ∀ j : Nat, j < n → m < j → ¬ g.Ahd t j)
  | 0 => .inl ⟨rfl, fun j h => by omega⟩
  | n + 1 => by
    unfold aheadTo
    split
    · rename_i h
      exact .inr ⟨n, by omega, rfl, h.1, h.2, fun j h1 h2 => by omega⟩
    · rename_i h
      rcases aheadTo_spec n with ⟨h1, h2⟩ | ⟨m, h1, h2, h3, h4, h5⟩
      · refine .inl ⟨h1, fun j hj hw ha => ?_⟩
        by_cases e : j = n
        · subst e; exact h ⟨hw, ha⟩
        · exact h2 j (by omega) hw ha
      · refine .inr ⟨m, by omega, h2, h3, h4, fun j hj hm ha => ?_⟩
        by_cases e : j = n
        · subst e; exact h ⟨by omega, ha⟩
        · exact h5 j (by omega) hm ha
theorem aheadOf_is {t : List Int} {w : Int} {m : Nat} (hm : m ≤ 1000) (hw : w < (m : Int)) (ha : g.Ahd t m) (hl : ∀ j : Nat, j ≤ 1000 → m < j → ¬ g.Ahd t j) : g.aheadOf t w = (m : Int) := by
  rcases aheadTo_spec (g := g) (t := t) (w := w) 1001 with ⟨_, h2⟩ | ⟨c, h1, h2, _, h4, h5⟩
  · exact absurd ha (h2 m (by omega) hw)
  · have e : c = m := by
      rcases Nat.lt_trichotomy c m with h | h | h
      · exact absurd ha (h5 m (by omega) h)
      · exact h
      · exact absurd h4 (hl c (by omega) h)
    unfold aheadOf; rw [h2, e]
theorem aheadOf_self {t : List Int} {w : Int} (hl : ∀ j : Nat, j ≤ 1000 → w < (j : Int) → ¬ g.Ahd t j) : g.aheadOf t w = w := by
  rcases aheadTo_spec (g := g) (t := t) (w := w) 1001 with ⟨h1, _⟩ | ⟨c, h1, _, h3, h4, _⟩
  · exact h1
  · exact absurd h4 (hl c (by omega) h3)
theorem Le.ahead {g g' : Tab} {t : List Int} (ht : StOk t) (h : Le g g') (w : Int) : g.aheadOf t w ≤ g'.aheadOf t w := by
  have hw' : w ≤ g'.aheadOf t w := by
    rcases aheadTo_spec (g := g') (t := t) (w := w) 1001 with ⟨h1, _⟩ | ⟨c, _, h2, h3, _⟩
    · unfold aheadOf; omega
    · unfold aheadOf; omega
  rcases aheadTo_spec (g := g) (t := t) (w := w) 1001 with ⟨h1, _⟩ | ⟨c, h1, h2, h3, h4, _⟩
  · unfold aheadOf at *; omega
  · rcases aheadTo_spec (g := g') (t := t) (w := w) 1001 with ⟨_, k2⟩ | ⟨d, k1, k2, _, _, k5⟩
    · exact absurd (h.ahd ht h4) (k2 c h1 h3)
    · have : ¬ d < c := fun hd => k5 c h1 hd (h.ahd ht h4)
      unfold aheadOf; omega
end Tab
def VtOk (n : Nat) (v : VtD) : Prop := (v.k = 4 ∨ v.k = 5) ∧ (0 ≤ v.w ∧ v.w ≤ 1000) ∧ (0 ≤ v.f ∧ v.f < (n : Int)) ∧ -1 ≤ v.x
instance (n : Nat) (v : VtD) : Decidable (VtOk n v) := by unfold VtOk; infer_instance
end Go.Proofs.YtajkjiegcmpjaaaGreat
namespace Go.Proofs.YtajkjiegcmpjaaaGreat
set_option maxRecDepth 100000
open Go.RowKit
def ldr (i v n : Int) : Int := if 0 ≤ i ∧ i ≤ 1000 ∧ 0 ≤ v ∧ v ≤ 1000 ∧ 1 ≤ n ∧ n ≤ 7 then (i + v) % n else 0
def grw (b : Int) (k : Nat) : Int := b * 2 ^ k
def pat (v b m : Int) : Int := if 1 ≤ m ∧ m ≤ 1000 then (if 0 ≤ v ∧ 1 ≤ b ∧ b ≤ 100 then min (grw b v.toNat) m else m) else 1000
def tck (x : Int) : Int := max x 1 - 1
theorem grw_zero (b : Int) : grw b 0 = b := by simp [grw]
theorem grw_succ (b : Int) (k : Nat) : grw b (k + 1) = grw b k * 2 := by unfold grw; rw [Int.pow_succ, Int.mul_assoc]
theorem grw_mono {b : Int} (hb : 1 ≤ b) (k : Nat) : ∀ j, grw b k ≤ grw b (k + j)
  | 0 => Int.le_refl _
  | j + 1 => by
    have h := grw_mono hb k j
    have h0 : 0 ≤ grw b (k + j) := by
      unfold grw
      exact Int.mul_nonneg (by omega) (Int.le_of_lt (Int.pow_pos (by decide)))
    rw [← Nat.add_assoc, grw_succ]; omega
theorem grw_le {b : Int} (hb : 1 ≤ b) {k n : Nat} (h : k ≤ n) : grw b k ≤ grw b n := by
  have := grw_mono hb k (n - k)
  rwa [show k + (n - k) = n by omega] at this
theorem grw_pos {b : Int} (hb : 1 ≤ b) (k : Nat) : 1 ≤ grw b k := by
  have := grw_le hb (Nat.zero_le k)
  rw [grw_zero] at this; omega
theorem pat_bad {v b m : Int} (h : ¬ (1 ≤ m ∧ m ≤ 1000)) : pat v b m = 1000 := by unfold pat; rw [if_neg h]
theorem pat_cap {v b m : Int} (h : 1 ≤ m ∧ m ≤ 1000) (h2 : ¬ (0 ≤ v ∧ 1 ≤ b ∧ b ≤ 100)) : pat v b m = m := by unfold pat; rw [if_pos h, if_neg h2]
theorem pat_good {v b m : Int} (h : 1 ≤ m ∧ m ≤ 1000) (h2 : 0 ≤ v ∧ 1 ≤ b ∧ b ≤ 100) : pat v b m = min (grw b v.toNat) m := by unfold pat; rw [if_pos h, if_pos h2]
theorem pat_end {v b m y : Int} {k : Nat} (h : 1 ≤ m ∧ m ≤ 1000) (h2 : 0 ≤ v ∧ 1 ≤ b ∧ b ≤ 100) (hk : k ≤ v.toNat) (hy : y = grw b k) (he : k = v.toNat ∨ m ≤ y) : pat v b m = min y m := by
  rw [pat_good h h2]
  rcases he with rfl | he
  · rw [hy]
  · have := grw_le h2.2.1 hk
    omega
theorem pat_range (v b m : Int) : 1 ≤ pat v b m ∧ pat v b m ≤ 1000 := by
  by_cases h : 1 ≤ m ∧ m ≤ 1000
  · by_cases h2 : 0 ≤ v ∧ 1 ≤ b ∧ b ≤ 100
    · rw [pat_good h h2]
      have := grw_pos h2.2.1 v.toNat
      omega
    · rw [pat_cap h h2]; omega
  · rw [pat_bad h]; omega
theorem ldr_good {i v n : Int} (h : 0 ≤ i ∧ i ≤ 1000 ∧ 0 ≤ v ∧ v ≤ 1000 ∧ 1 ≤ n ∧ n ≤ 7) : ldr i v n = (i + v) % n := by unfold ldr; rw [if_pos h]
theorem ldr_bad {i v n : Int} (h : ¬ (0 ≤ i ∧ i ≤ 1000 ∧ 0 ≤ v ∧ v ≤ 1000 ∧ 1 ≤ n ∧ n ≤ 7)) : ldr i v n = 0 := by unfold ldr; rw [if_neg h]
end Go.Proofs.YtajkjiegcmpjaaaGreat
namespace Go.Proofs.YtajkjiegcmpjaaaGreat
set_option maxRecDepth 100000
structure MsV where
  kd : Int
  fm : Int
  ix : Int
  vw : Int
  vl : Int
  pr : Int
theorem MsV.eq_iff {a b : MsV} : a = b ↔ [a.kd, a.fm, a.ix, a.vw, a.vl, a.pr] = [b.kd, b.fm, b.ix, b.vw, b.vl, b.pr] := by
  constructor
  · intro h; rw [h]
  · intro h
    obtain ⟨k, f, i, v, x, p⟩ := a
    obtain ⟨k', f', i', v', x', p'⟩ := b
    simp only [List.cons.injEq, and_true] at h
    obtain ⟨rfl, rfl, rfl, rfl, rfl, rfl⟩ := h
    rfl
instance : DecidableEq MsV := fun _ _ => decidable_of_iff _ MsV.eq_iff.symm
structure AcV where
  to : Int
  m : MsV
theorem AcV.eq_iff {a b : AcV} : a = b ↔ a.to = b.to ∧ a.m = b.m := by
  constructor
  · intro h; rw [h]; exact ⟨rfl, rfl⟩
  · obtain ⟨x, y⟩ := a
    obtain ⟨x', y'⟩ := b
    rintro ⟨h1, h2⟩
    simp only at h1 h2
    rw [h1, h2]
instance : DecidableEq AcV := fun _ _ => decidable_of_iff _ AcV.eq_iff.symm
structure RcV where
  kd : Int
  ix : Int
  vw : Int
  vl : Int
def vok (n : Nat) (T : Tab) (k w : Int) (i : Nat) (x : Int) : Bool := decide (((k = 4 ∨ k = 5) ∧ (0 ≤ w ∧ w ≤ 1000) ∧ -1 ≤ x) ∧ i < n ∧ T k w i = none)
def vput (T : Tab) (k w : Int) (i : Nat) (x : Int) : Tab := fun k' w' i' => if k' = k ∧ w' = w ∧ i' = i then some x else T k' w' i'
def vadd (n : Nat) (T : Tab) (k w : Int) (i : Nat) (x : Int) : Tab := if vok n T k w i x = true then vput T k w i x else T
def T0 : Tab := fun _ _ _ => none
theorem vok_iff {n : Nat} {T : Tab} {k w : Int} {i : Nat} {x : Int} : vok n T k w i x = true ↔ ((k = 4 ∨ k = 5) ∧ (0 ≤ w ∧ w ≤ 1000) ∧ -1 ≤ x) ∧ i < n ∧ T k w i = none := by unfold vok; exact decide_eq_true_iff
theorem vadd_get {n : Nat} {T : Tab} {k w : Int} {i : Nat} {x : Int} (k' w' : Int) (i' : Nat) : vadd n T k w i x k' w' i' = if vok n T k w i x = true ∧ k' = k ∧ w' = w ∧ i' = i then some x else T k' w' i' := by
  unfold vadd
  by_cases h : vok n T k w i x = true
  · rw [if_pos h]; unfold vput; simp only [h, true_and]
  · rw [if_neg h, if_neg fun q => h q.1]
theorem vadd_no {n : Nat} {T : Tab} {k w : Int} {i : Nat} {x : Int} (h : vok n T k w i x = false) : vadd n T k w i x = T := by unfold vadd; rw [if_neg (by rw [h]; simp)]
structure CoD where
  me : Nat
  t : List Int
  base : Int
  most : Int
  dec : List Int
  view : Int
  step : Int
  left : Int
  tip : Int
  T : Tab
  prop : Int → Option (Int × Int)
  said : Nat → Option Int
  lv : Int
  lw : Int
  vv : Int
  vw : Int
  out : List AcV
namespace CoD
def idx (c : CoD) : Int := (c.dec.length : Int)
def new (me : Nat) (t : List Int) (base most : Int) : CoD := ⟨me, t, base, most, [], 0, 0, 0, 0, T0, fun _ => none, fun _ => none, 0, -1, 0, -1, []⟩
def send (c : CoD) (m : MsV) : CoD := { c with out := c.out ++ [⟨-1, m⟩] }
def vote (c : CoD) (k x : Int) : MsV := ⟨k, c.me, c.idx, c.view, x, 0⟩
def cast (c : CoD) (k x : Int) : CoD :=
  if vok c.t.length c.T k c.view c.me x = true then { c with T := vadd c.t.length c.T k c.view c.me x, out := c.out ++ [⟨-1, c.vote k x⟩] } else c
def to (c : CoD) (s : Int) : CoD := { c with step := s, left := pat c.view c.base c.most }
def leader (c : CoD) (w : Int) : Int := ldr c.idx w c.t.length
def prop1 (c : CoD) : Int × Int := if 0 ≤ c.vw then (c.vv, c.vw) else (c.tip, -1)
def offer (c : CoD) (w : Int) (p : Int × Int) : MsV := ⟨3, c.me, c.idx, w, p.1, p.2⟩
def setProp (c : CoD) (w : Int) (p : Int × Int) : CoD := { c with prop := fun u => if u = w then some p else c.prop u }
def enter (c : CoD) (w : Int) : CoD :=
  let d := ({ c with view := w } : CoD).to 1
  if d.prop w = none ∧ d.leader w = d.me then (d.setProp w d.prop1).send (d.offer w d.prop1) else d
def saidSet (said : Nat → Option Int) (n : Nat) (v : Int) : List Int := picks (fun j => decide (said j = some v)) n
def saidAll (t : List Int) (said : Nat → Option Int) : List Int := (List.range t.length).filterMap fun i => match said i with
  | some v => if some3 t (saidSet said t.length v) = true then some v else none
  | none => none
def saidOf (t : List Int) (said : Nat → Option Int) : Option Int := (saidAll t said).min?
def agreed (c : CoD) : Option Int := (c.T.commOf c.t).or (saidOf c.t c.said)
def rest (c : CoD) : CoD := { c with view := 0, step := 0, left := 0, T := T0, prop := fun _ => none, said := fun _ => none, lv := 0, lw := -1, vv := 0, vw := -1 }
def conclude (c : CoD) (v : Int) : CoD := ({ c with dec := c.dec ++ [v], out := c.out ++ [⟨-1, ⟨6, c.me, c.idx, 0, v, 0⟩⟩] } : CoD).rest
def knows (kn : List Int) (x : Int) : Bool := decide (x = 0 ∨ x ∈ kn)
def free (c : CoD) (x q : Int) : Bool := decide (c.lv = x ∨ c.lw ≤ q)
def prep (c : CoD) (x q : Int) : CoD := (c.cast 4 (if c.free x q = true then x else -1)).to 2
def lock (c : CoD) (x : Int) : CoD := if x = -1 then c else { c with lv := x, lw := c.view, vv := x, vw := c.view }
def comm (c : CoD) (x : Int) : CoD := ((c.lock x).cast 5 x).to 3
def valid (c : CoD) (x : Int) : CoD := { c with vv := x, vw := c.view }
def step3 (c : CoD) (kn : List Int) : Option CoD := match c.prop c.view with
  | none => none
  | some p => if knows kn p.1 = true ∧ (p.2 = -1 ∨ c.T.mostOf c.t 4 p.2 = some p.1) then some (c.prep p.1 p.2) else none
def step45 (c : CoD) (kn : List Int) : Option CoD := match c.T.mostOf c.t 4 c.view with
  | none => none
  | some x => if c.step = 2 then (if x = -1 ∨ knows kn x = true then some (c.comm x) else none)
    else if x ≠ -1 ∧ knows kn x = true ∧ c.vw < c.view then some (c.valid x) else none
def step1 (c : CoD) (kn : List Int) : Option CoD :=
  if 1000 < c.dec.length then none else
  match c.agreed with
  | some v => some (c.conclude v)
  | none => if c.step = 0 then none else
    if c.view < c.T.aheadOf c.t c.view then some (c.enter (c.T.aheadOf c.t c.view)) else
    if c.step = 1 then c.step3 kn else c.step45 kn
def settleN : Nat → CoD → List Int → CoD
  | 0, c, _ => c
  | n + 1, c, kn => match c.step1 kn with
    | none => c
    | some d => settleN n d kn
def muV (n : Nat) (view step vw : Int) : Nat := (1001 - n) * 10000 + (1000 - view).toNat * 8 + (3 - step).toNat * 2 + if vw < view then 1 else 0
def mu (c : CoD) : Nat := muV c.dec.length c.view c.step c.vw
def settle (c : CoD) (kn : List Int) : CoD := settleN (c.mu + 1) c kn
def flush (c : CoD) : CoD := { c with out := [] }
def hear (c : CoD) (m : MsV) : CoD :=
  if m.kd = 3 then (if c.leader m.vw = m.fm ∧ c.prop m.vw = none then c.setProp m.vw (m.vl, m.pr) else c)
  else if m.kd = 6 then (if c.said m.fm.toNat = none then { c with said := fun j => if j = m.fm.toNat then some m.vl else c.said j } else c)
  else { c with T := vadd c.t.length c.T m.kd m.vw m.fm.toNat m.vl }
def handle (c : CoD) (m : MsV) (kn : List Int) : CoD :=
  if m.kd < 3 ∨ (c.t.length : Int) ≤ m.fm ∨ c.idx < m.ix then c
  else if m.ix < c.idx then (if m.kd = 6 then c else { c with out := c.out ++ [⟨m.fm, ⟨6, c.me, m.ix, 0, c.dec.getD m.ix.toNat 0, 0⟩⟩] })
  else (c.hear m).settle kn
def tock (c : CoD) : CoD :=
  if c.step = 0 then c.enter 0
  else
    let d : CoD := { c with left := tck c.left }
    if d.left = 0 then
      (if d.step = 1 then (d.cast 4 (-1)).to 2
      else if d.step = 2 then (d.cast 5 (-1)).to 3
      else if d.view < 1000 then d.enter (d.view + 1) else d.to 3)
    else d
def again (c : CoD) : List MsV :=
  (match c.prop c.view with
    | some p => if c.leader c.view = c.me then [c.offer c.view p] else []
    | none => []) ++
  (match c.T 4 c.view c.me with
    | some x => [c.vote 4 x]
    | none => []) ++
  (match c.T 5 c.view c.me with
    | some x => [c.vote 5 x]
    | none => [])
def resend (c : CoD) : CoD := if c.step = 0 then c else { c with out := c.out ++ (c.again.filter fun m => !(c.out.any fun a => decide (a.m = m))).map fun m => ⟨-1, m⟩ }
def tick (c : CoD) (kn : List Int) (tip : Int) : CoD :=
  if 1000 < c.dec.length then c else ((({ c with tip := tip } : CoD).tock).settle kn).resend
end CoD
end Go.Proofs.YtajkjiegcmpjaaaGreat
namespace Go.Proofs.YtajkjiegcmpjaaaGreat
set_option maxRecDepth 100000
structure Aux (N : Int → Prop) (c : CoD) : Prop where
  st : StOk c.t
  lt : c.me < c.t.length
  tab : ∀ k w i x, c.T k w i = some x → (k = 4 ∨ k = 5) ∧ (0 ≤ w ∧ w ≤ 1000) ∧ i < c.t.length ∧ (x = -1 ∨ N x)
  rs : 0 ≤ c.step ∧ c.step ≤ 3
  rv : 0 ≤ c.view ∧ c.view ≤ 1000
  dl : c.dec.length ≤ 1001
  di : c.step ≠ 0 → c.dec.length ≤ 1000
  pr : ∀ w p, c.prop w = some p → N p.1 ∧ -1 ≤ p.2 ∧ p.2 < w
  sd : ∀ j v, c.said j = some v → N v
  vv : N c.vv
  tp : N c.tip
  dc : ∀ x ∈ c.dec, N x
  vw : -1 ≤ c.vw ∧ c.vw ≤ c.view
  v0 : c.step = 0 → c.vw = -1 ∧ c.view = 0
def MsV.Ok (N : Int → Prop) (m : MsV) : Prop := (0 ≤ m.ix ∧ m.ix ≤ 1000) ∧ ((m.kd = 3 ∧ N m.vl ∧ (0 ≤ m.vw ∧ m.vw ≤ 1000) ∧ -1 ≤ m.pr ∧ m.pr < m.vw) ∨ ((m.kd = 4 ∨ m.kd = 5) ∧ (m.vl = -1 ∨ N m.vl) ∧ (0 ≤ m.vw ∧ m.vw ≤ 1000) ∧ m.pr = 0) ∨ (m.kd = 6 ∧ N m.vl ∧ m.vw = 0 ∧ m.pr = 0))
def AcOk (N : Int → Prop) (c : CoD) (i0 : Int) (a : AcV) : Prop := a.m.Ok N ∧ a.m.fm = (c.me : Int) ∧ (-1 ≤ a.to ∧ a.to < c.t.length) ∧ a.m.ix ≤ c.idx ∧ (a.to = -1 → i0 ≤ a.m.ix) ∧ (a.m.ix = c.idx → a.m.kd ≠ 6 → a.m.vw ≤ c.view)
def Spk (N : Int → Prop) (i0 : Int) (c : CoD) : Prop := Aux N c ∧ i0 ≤ c.idx ∧ ∀ a ∈ c.out, AcOk N c i0 a
section
variable {N : Int → Prop} {i0 : Int} {c : CoD}
theorem Aux.new {me : Nat} {t : List Int} {base most : Int} (ht : StOk t) (hm : me < t.length) (h0 : N 0) : Aux N (CoD.new me t base most) := by
  unfold CoD.new
  exact ⟨ht, hm, fun k w i x h => (by cases h), (by simp), (by simp), (by simp), (by simp), fun w p h => (by cases h), fun j v h => (by cases h), h0, h0, fun x h => (by cases h), (by simp), fun _ => ⟨rfl, rfl⟩⟩
theorem spk_send (h : Spk N i0 c) {m : MsV} (hm : m.Ok N) (hf : m.fm = (c.me : Int)) (hi : m.ix = c.idx) (hv : m.kd ≠ 6 → m.vw ≤ c.view) : Spk N i0 (c.send m) := by
  obtain ⟨h1, h2, h3⟩ := h
  refine ⟨⟨h1.st, h1.lt, h1.tab, h1.rs, h1.rv, h1.dl, h1.di, h1.pr, h1.sd, h1.vv, h1.tp, h1.dc, h1.vw, h1.v0⟩, h2, fun a ha => ?_⟩
  rcases List.mem_append.1 ha with ha | ha
  · exact h3 a ha
  · rw [List.mem_singleton] at ha
    subst ha
    exact ⟨hm, hf, ⟨by simp, by simp only; omega⟩, by simp only [hi]; exact Int.le_refl _, fun _ => by simp only [hi]; exact h2, fun _ hk => hv hk⟩
theorem spk_view (h : Spk N i0 c) {w l : Int} (hd : c.dec.length ≤ 1000) (hw : 0 ≤ w ∧ w ≤ 1000) (hv : c.view ≤ w) : Spk N i0 { c with view := w, step := 1, left := l } := by
  obtain ⟨h1, h2, h3⟩ := h
  refine ⟨⟨h1.st, h1.lt, h1.tab, (show (0 : Int) ≤ 1 ∧ (1 : Int) ≤ 3 by decide), hw, h1.dl, fun _ => hd, h1.pr, h1.sd, h1.vv, h1.tp, h1.dc, ⟨h1.vw.1, Int.le_trans h1.vw.2 hv⟩, fun q => (by cases q)⟩, h2, fun a ha => ?_⟩
  obtain ⟨a1, a2, a3, a4, a5, a6⟩ := h3 a ha
  exact ⟨a1, a2, a3, a4, a5, fun e k => Int.le_trans (a6 e k) hv⟩
theorem spk_setProp (h : Spk N i0 c) {w : Int} {p : Int × Int} (hp : N p.1 ∧ -1 ≤ p.2 ∧ p.2 < w) : Spk N i0 (c.setProp w p) := by
  obtain ⟨h1, h2, h3⟩ := h
  refine ⟨⟨h1.st, h1.lt, h1.tab, h1.rs, h1.rv, h1.dl, h1.di, fun u q hq => ?_, h1.sd, h1.vv, h1.tp, h1.dc, h1.vw, h1.v0⟩, h2, h3⟩
  unfold CoD.setProp at hq
  simp only at hq
  split at hq
  · rename_i e
    injection hq with hq
    rw [e, ← hq]; exact hp
  · exact h1.pr u q hq
theorem spk_enter (h : Spk N i0 c) {w : Int} (hd : c.dec.length ≤ 1000) (hw : 0 ≤ w ∧ w ≤ 1000) (hv : (c.step = 0 ∧ c.view ≤ w) ∨ c.view < w) : Spk N i0 (c.enter w) := by
  have hle : c.view ≤ w := by omega
  have hD : Spk N i0 (({ c with view := w } : CoD).to 1) := spk_view h hd hw hle
  have hp : N (({ c with view := w } : CoD).to 1).prop1.1 ∧ -1 ≤ (({ c with view := w } : CoD).to 1).prop1.2 ∧ (({ c with view := w } : CoD).to 1).prop1.2 < w := by
    unfold CoD.prop1 CoD.to
    simp only
    split
    · rename_i h0
      refine ⟨h.1.vv, by simp only; omega, ?_⟩
      simp only
      rcases hv with ⟨hv, _⟩ | hv
      · have := (h.1.v0 hv).1; omega
      · have := h.1.vw.2; omega
    · exact ⟨h.1.tp, by simp, by simp only; omega⟩
  unfold CoD.enter
  simp only
  split
  · refine spk_send (spk_setProp hD hp) ?_ rfl rfl fun _ => Int.le_refl _
    exact ⟨⟨by unfold CoD.offer; exact Int.natCast_nonneg _, by unfold CoD.offer; show (c.dec.length : Int) ≤ 1000; omega⟩, .inl ⟨rfl, hp.1, hw, hp.2.1, hp.2.2⟩⟩
  · exact hD
theorem spk_cast (h : Spk N i0 c) {k x s l : Int} (hd : c.dec.length ≤ 1000) (hx : x = -1 ∨ N x) (hs : 1 ≤ s ∧ s ≤ 3) :
    Spk N i0 { c.cast k x with step := s, left := l } := by
  have key : Spk N i0 { c with step := s, left := l } := by
    obtain ⟨h1, h2, h3⟩ := h
    exact ⟨⟨h1.st, h1.lt, h1.tab, ⟨by simp only; omega, by simp only; omega⟩, h1.rv, h1.dl, fun _ => hd, h1.pr, h1.sd, h1.vv, h1.tp, h1.dc, h1.vw, fun q => by simp only at q; omega⟩, h2, h3⟩
  unfold CoD.cast
  split
  · rename_i hok
    have hk := vok_iff.1 hok
    have hm : (c.vote k x).Ok N := ⟨⟨by unfold CoD.vote; exact Int.natCast_nonneg _, by unfold CoD.vote; show (c.dec.length : Int) ≤ 1000; omega⟩, .inr (.inl ⟨hk.1.1, hx, hk.1.2.1, rfl⟩)⟩
    have h2 := spk_send (m := c.vote k x) key hm rfl rfl fun _ => Int.le_refl _
    obtain ⟨g1, g2, g3⟩ := h2
    refine ⟨⟨g1.st, g1.lt, fun k' w i v hv => ?_, g1.rs, g1.rv, g1.dl, g1.di, g1.pr, g1.sd, g1.vv, g1.tp, g1.dc, g1.vw, g1.v0⟩, g2, g3⟩
    simp only at hv
    rw [vadd_get] at hv
    split at hv
    · rename_i hc
      injection hv with hv
      rw [hc.2.1, hc.2.2.1, hc.2.2.2, ← hv]
      exact ⟨hk.1.1, hk.1.2.1, hk.2.1, hx⟩
    · exact h.1.tab k' w i v hv
  · exact key
theorem spk_lock (h : Spk N i0 c) {x : Int} (hx : x = -1 ∨ N x) (h0 : c.step ≠ 0) : Spk N i0 (c.lock x) := by
  unfold CoD.lock
  split
  · exact h
  · rename_i hne
    obtain ⟨h1, h2, h3⟩ := h
    exact ⟨⟨h1.st, h1.lt, h1.tab, h1.rs, h1.rv, h1.dl, h1.di, h1.pr, h1.sd, hx.resolve_left hne, h1.tp, h1.dc, ⟨by have := h1.rv.1; simp only; omega, Int.le_refl _⟩, fun q => absurd q h0⟩, h2, h3⟩
theorem spk_valid (h : Spk N i0 c) {x : Int} (hx : N x) (h0 : c.step ≠ 0) : Spk N i0 (c.valid x) := by
  obtain ⟨h1, h2, h3⟩ := h
  exact ⟨⟨h1.st, h1.lt, h1.tab, h1.rs, h1.rv, h1.dl, h1.di, h1.pr, h1.sd, hx, h1.tp, h1.dc, ⟨by have := h1.rv.1; unfold CoD.valid; simp only; omega, Int.le_refl _⟩, fun q => absurd q h0⟩, h2, h3⟩
theorem spk_conclude (h : Spk N i0 c) {v : Int} (hd : c.dec.length ≤ 1000) (hv : N v) (h0 : N 0) : Spk N i0 (c.conclude v) := by
  obtain ⟨h1, h2, h3⟩ := h
  have hidx : (CoD.conclude c v).idx = c.idx + 1 := by unfold CoD.conclude CoD.rest CoD.idx; simp
  refine ⟨⟨h1.st, h1.lt, fun k w i x q => (by cases q), (by unfold CoD.conclude CoD.rest; simp), (by unfold CoD.conclude CoD.rest; simp), (by unfold CoD.conclude CoD.rest; simp; omega), fun q => absurd rfl q, fun w p q => (by cases q), fun j x q => (by cases q), h0, h1.tp, fun x hx => ?_, (by unfold CoD.conclude CoD.rest; simp), fun _ => ⟨rfl, rfl⟩⟩, by rw [hidx]; omega, fun a ha => ?_⟩
  · rcases List.mem_append.1 hx with hx | hx
    · exact h1.dc x hx
    · rw [List.mem_singleton] at hx; rw [hx]; exact hv
  · rcases List.mem_append.1 ha with ha | ha
    · obtain ⟨a1, a2, a3, a4, a5, a6⟩ := h3 a ha
      exact ⟨a1, a2, a3, by rw [hidx]; omega, a5, fun e => by rw [hidx] at e; omega⟩
    · rw [List.mem_singleton] at ha
      subst ha
      refine ⟨⟨⟨Int.natCast_nonneg _, by show (c.dec.length : Int) ≤ 1000; omega⟩, .inr (.inr ⟨rfl, hv, rfl, rfl⟩)⟩, rfl, ⟨by simp, by show (-1 : Int) < c.t.length; omega⟩, by rw [hidx]; show c.idx ≤ _; omega, fun _ => h2, fun _ q => absurd rfl q⟩
theorem Aux.agreed (h : Aux N c) {v : Int} (hv : c.agreed = some v) : N v := by
  unfold CoD.agreed at hv
  cases hc : c.T.commOf c.t with
  | some x =>
    rw [hc] at hv
    have : x = v := by simpa using hv
    subst this
    obtain ⟨j, _, hj⟩ := Tab.commOf_some hc
    obtain ⟨hm, hne⟩ := (Tab.commAt_iff h.st).1 hj
    obtain ⟨i, _, hi⟩ := Tab.Mst.one h.st hm
    exact (h.tab _ _ _ _ hi).2.2.2.resolve_left hne
  | none =>
    rw [hc, Option.none_or] at hv
    unfold CoD.saidOf at hv
    have hm := List.min?_mem hv
    unfold CoD.saidAll at hm
    obtain ⟨i, _, hi⟩ := List.mem_filterMap.1 hm
    cases hs : c.said i with
    | none => rw [hs] at hi; cases hi
    | some y =>
      rw [hs] at hi
      simp only at hi
      split at hi
      · injection hi with hi
        rw [← hi]; exact h.sd i y hs
      · cases hi
theorem Aux.mostN (h : Aux N c) {k w x : Int} (hm : c.T.mostOf c.t k w = some x) : x = -1 ∨ N x := by
  obtain ⟨i, _, hi⟩ := Tab.Mst.one h.st ((Tab.mostOf_iff h.st).1 hm)
  exact (h.tab _ _ _ _ hi).2.2.2
theorem ahead_le {T : Tab} {t : List Int} {w : Int} (h : w < T.aheadOf t w) : 0 ≤ T.aheadOf t w ∧ T.aheadOf t w ≤ 1000 := by
  rcases Tab.aheadTo_spec (g := T) (t := t) (w := w) 1001 with ⟨h1, _⟩ | ⟨m, h1, h2, _⟩
  · unfold Tab.aheadOf at h; omega
  · unfold Tab.aheadOf; omega
theorem spk_step1 (h : Spk N i0 c) (h0 : N 0) {kn : List Int} {d : CoD} (hd : c.step1 kn = some d) : Spk N i0 d := by
  unfold CoD.step1 at hd
  split at hd
  · cases hd
  rename_i hlen
  have hlen : c.dec.length ≤ 1000 := by omega
  split at hd
  · rename_i v hv
    injection hd with hd
    subst hd
    exact spk_conclude h hlen (h.1.agreed hv) h0
  split at hd
  · cases hd
  rename_i hs0
  split at hd
  · rename_i ha
    injection hd with hd
    subst hd
    exact spk_enter h hlen (ahead_le ha) (.inr ha)
  split at hd
  · unfold CoD.step3 at hd
    split at hd
    · cases hd
    · rename_i p hpp
      split at hd
      · injection hd with hd
        subst hd
        refine spk_cast h hlen ?_ (by decide)
        split
        · exact .inr (h.1.pr _ _ hpp).1
        · exact .inl rfl
      · cases hd
  · unfold CoD.step45 at hd
    split at hd
    · cases hd
    · rename_i x hx
      split at hd
      · split at hd
        · injection hd with hd
          subst hd
          unfold CoD.comm
          refine spk_cast (spk_lock h (h.1.mostN hx) hs0) ?_ (h.1.mostN hx) (by decide)
          unfold CoD.lock; split <;> exact hlen
        · cases hd
      · split at hd
        · rename_i hc
          injection hd with hd
          subst hd
          exact spk_valid h ((h.1.mostN hx).resolve_left hc.1) hs0
        · cases hd
theorem mu_enter (c : CoD) (w : Int) : (c.enter w).mu = CoD.muV c.dec.length w 1 c.vw := by
  unfold CoD.enter CoD.mu
  simp only
  split <;> rfl
theorem mu_cast (c : CoD) (k x s : Int) : ((c.cast k x).to s).mu = CoD.muV c.dec.length c.view s c.vw := by
  unfold CoD.cast CoD.to CoD.mu
  split <;> rfl
theorem mu_step1 (h : Aux N c) {kn : List Int} {d : CoD} (hd : c.step1 kn = some d) : d.mu < c.mu := by
  obtain ⟨hs1, hs2⟩ := h.rs
  obtain ⟨hv1, hv2⟩ := h.rv
  have hvw := h.vw
  unfold CoD.step1 at hd
  split at hd
  · cases hd
  rename_i hlen
  split at hd
  · rename_i v _
    injection hd with hd
    subst hd
    show CoD.muV (c.dec ++ [v]).length 0 0 (-1) < CoD.muV c.dec.length c.view c.step c.vw
    rw [List.length_append, List.length_singleton]
    unfold CoD.muV
    split <;> split <;> omega
  split at hd
  · cases hd
  rename_i hs0
  split at hd
  · rename_i ha
    injection hd with hd
    subst hd
    have hle := ahead_le ha
    rw [mu_enter]
    show _ < CoD.muV c.dec.length c.view c.step c.vw
    unfold CoD.muV
    generalize c.T.aheadOf c.t c.view = a at ha hle
    split <;> split <;> omega
  split at hd
  · rename_i hs
    unfold CoD.step3 at hd
    split at hd
    · cases hd
    · split at hd
      · injection hd with hd
        subst hd
        unfold CoD.prep
        rw [mu_cast]
        show _ < CoD.muV c.dec.length c.view c.step c.vw
        rw [hs]
        unfold CoD.muV
        split <;> omega
      · cases hd
  · unfold CoD.step45 at hd
    split at hd
    · cases hd
    · rename_i x _
      split at hd
      · rename_i hs
        split at hd
        · injection hd with hd
          subst hd
          unfold CoD.comm
          rw [mu_cast]
          show _ < CoD.muV c.dec.length c.view c.step c.vw
          rw [hs]
          unfold CoD.lock
          split
          · unfold CoD.muV
            split <;> omega
          · show CoD.muV c.dec.length c.view 3 c.view < _
            unfold CoD.muV
            rw [if_neg (Int.lt_irrefl _)]
            split <;> omega
        · cases hd
      · split at hd
        · rename_i hc
          injection hd with hd
          subst hd
          show CoD.muV c.dec.length c.view c.step c.view < CoD.muV c.dec.length c.view c.step c.vw
          unfold CoD.muV
          rw [if_neg (Int.lt_irrefl _), if_pos hc.2.2]
          omega
        · cases hd
theorem settleN_ind (P : CoD → Prop) {kn : List Int} (hs : ∀ c d, P c → c.step1 kn = some d → P d) : ∀ (n : Nat) (c : CoD), P c → P (CoD.settleN n c kn)
  | 0, _, h => h
  | n + 1, c, h => by
    unfold CoD.settleN
    cases hd : c.step1 kn with
    | none => exact h
    | some d => exact settleN_ind P hs n d (hs c d h hd)
theorem settle_ind (P : CoD → Prop) {kn : List Int} (hs : ∀ c d, P c → c.step1 kn = some d → P d) (h : P c) : P (c.settle kn) := settleN_ind P hs _ c h
theorem settleN_succ (n : Nat) (c : CoD) (kn : List Int) : CoD.settleN (n + 1) c kn = match c.step1 kn with | none => c | some d => CoD.settleN n d kn := rfl
theorem settleN_more {kn : List Int} (h0 : N 0) (n : Nat) : ∀ (m : Nat) (c : CoD), Spk N i0 c → c.mu < n → c.mu < m → CoD.settleN n c kn = CoD.settleN m c kn := by
  induction n with
  | zero => intro m c _ h1 _; exact absurd h1 (Nat.not_lt_zero _)
  | succ n ih =>
    intro m c hc h1 h2
    cases m with
    | zero => exact absurd h2 (Nat.not_lt_zero _)
    | succ m =>
      rw [settleN_succ, settleN_succ]
      cases hd : c.step1 kn with
      | none => rfl
      | some d =>
        have := mu_step1 hc.1 hd
        exact ih m d (spk_step1 hc h0 hd) (by omega) (by omega)
theorem settle_none {kn : List Int} (h : c.step1 kn = none) : c.settle kn = c := by unfold CoD.settle; rw [settleN_succ, h]
theorem settle_some {kn : List Int} (hc : Spk N i0 c) (h0 : N 0) {d : CoD} (h : c.step1 kn = some d) : c.settle kn = d.settle kn := by
  unfold CoD.settle
  have e : CoD.settleN (c.mu + 1) c kn = CoD.settleN c.mu d kn := by rw [settleN_succ, h]
  rw [e]
  exact settleN_more h0 _ _ d (spk_step1 hc h0 h) (mu_step1 hc.1 h) (Nat.lt_succ_self _)
theorem spk_settle (h : Spk N i0 c) (h0 : N 0) (kn : List Int) : Spk N i0 (c.settle kn) := settle_ind (Spk N i0) (fun _ _ hc hd => spk_step1 hc h0 hd) h
end
end Go.Proofs.YtajkjiegcmpjaaaGreat
namespace Go.Proofs.YtajkjiegcmpjaaaGreat
set_option maxRecDepth 100000
section
variable {bad : Nat → Prop} {N : Int → Prop} {L : List AcV} {c : CoD} {i0 : Int} {m : MsV}
theorem spk_hear (h : Spk N i0 c) (hm : m.Ok N) : Spk N i0 (c.hear m) := by
  unfold CoD.hear
  split
  · rename_i h3
    split
    · refine spk_setProp h ?_
      rcases hm.2 with q | q | q
      · exact ⟨q.2.1, q.2.2.2.1, q.2.2.2.2⟩
      · omega
      · omega
    · exact h
  · rename_i h3
    split
    · rename_i h6
      split
      · obtain ⟨h1, h2, h4⟩ := h
        refine ⟨⟨h1.st, h1.lt, h1.tab, h1.rs, h1.rv, h1.dl, h1.di, h1.pr, fun j v hv => ?_, h1.vv, h1.tp, h1.dc, h1.vw, h1.v0⟩, h2, h4⟩
        simp only at hv
        split at hv
        · injection hv with hv
          rw [← hv]
          rcases hm.2 with q | q | q
          · omega
          · omega
          · exact q.2.1
        · exact h1.sd j v hv
      · exact h
    · rename_i h6
      obtain ⟨h1, h2, h4⟩ := h
      refine ⟨⟨h1.st, h1.lt, fun k w i x hv => ?_, h1.rs, h1.rv, h1.dl, h1.di, h1.pr, h1.sd, h1.vv, h1.tp, h1.dc, h1.vw, h1.v0⟩, h2, h4⟩
      simp only at hv
      rw [vadd_get] at hv
      split at hv
      · rename_i hc
        have hk := vok_iff.1 hc.1
        injection hv with hv
        rw [hc.2.1, hc.2.2.1, hc.2.2.2, ← hv]
        refine ⟨hk.1.1, hk.1.2.1, hk.2.1, ?_⟩
        rcases hm.2 with q | q | q
        · omega
        · exact q.2.1
        · omega
      · exact h1.tab k w i x hv
theorem spk_reply (h : Spk N i0 c) (hx : 0 ≤ m.ix ∧ m.ix < c.idx) (hf : 0 ≤ m.fm ∧ m.fm < c.t.length) : Spk N i0 { c with out := c.out ++ [⟨m.fm, ⟨6, c.me, m.ix, 0, c.dec.getD m.ix.toNat 0, 0⟩⟩] } := by
  obtain ⟨h1, h2, h3⟩ := h
  refine ⟨⟨h1.st, h1.lt, h1.tab, h1.rs, h1.rv, h1.dl, h1.di, h1.pr, h1.sd, h1.vv, h1.tp, h1.dc, h1.vw, h1.v0⟩, h2, fun a ha => ?_⟩
  rcases List.mem_append.1 ha with ha | ha
  · exact h3 a ha
  · rw [List.mem_singleton] at ha
    subst ha
    have hl : m.ix < c.dec.length := hx.2
    have hj : m.ix.toNat < c.dec.length := by omega
    refine ⟨⟨⟨hx.1, by have := h1.dl; simp only; omega⟩, .inr (.inr ⟨rfl, ?_, rfl, rfl⟩)⟩, rfl, ⟨by simp only; omega, hf.2⟩, Int.le_of_lt hx.2, fun q => by simp only at q; omega, fun _ q => absurd rfl q⟩
    simp only [List.getD_eq_getElem?_getD, List.getElem?_eq_getElem hj, Option.getD_some]
    exact h1.dc _ (List.getElem_mem hj)
theorem spk_left (h : Spk N i0 c) (l : Int) : Spk N i0 { c with left := l } := by
  obtain ⟨h1, h2, h3⟩ := h
  exact ⟨⟨h1.st, h1.lt, h1.tab, h1.rs, h1.rv, h1.dl, h1.di, h1.pr, h1.sd, h1.vv, h1.tp, h1.dc, h1.vw, h1.v0⟩, h2, h3⟩
theorem spk_tip (h : Spk N i0 c) {x : Int} (hx : N x) : Spk N i0 { c with tip := x } := by
  obtain ⟨h1, h2, h3⟩ := h
  exact ⟨⟨h1.st, h1.lt, h1.tab, h1.rs, h1.rv, h1.dl, h1.di, h1.pr, h1.sd, h1.vv, hx, h1.dc, h1.vw, h1.v0⟩, h2, h3⟩
theorem spk_to (h : Spk N i0 c) (hd : c.dec.length ≤ 1000) {s : Int} (hs : 1 ≤ s ∧ s ≤ 3) : Spk N i0 (c.to s) := by
  obtain ⟨h1, h2, h3⟩ := h
  exact ⟨⟨h1.st, h1.lt, h1.tab, ⟨by unfold CoD.to; simp only; omega, hs.2⟩, h1.rv, h1.dl, fun _ => hd, h1.pr, h1.sd, h1.vv, h1.tp, h1.dc, h1.vw, fun q => by unfold CoD.to at q; simp only at q; omega⟩, h2, h3⟩
theorem spk_tock (h : Spk N i0 c) (hd : c.dec.length ≤ 1000) : Spk N i0 c.tock := by
  unfold CoD.tock
  split
  · rename_i h0
    exact spk_enter h hd (by decide) (.inl ⟨h0, by rw [(h.1.v0 h0).2]; exact Int.le_refl _⟩)
  · have h' := spk_left h (tck c.left)
    simp only
    split
    · split
      · exact spk_cast h' hd (.inl rfl) (by decide)
      · split
        · exact spk_cast h' hd (.inl rfl) (by decide)
        · split
          · rename_i hlt
            have hv0 := h.1.rv.1
            exact spk_enter h' hd (w := c.view + 1) ⟨by omega, by omega⟩ (.inr (show c.view < c.view + 1 by omega))
          · exact spk_to h' hd (by decide)
    · exact h'
def AgOk (c : CoD) (m : MsV) : Prop := (∃ w p, c.prop w = some p ∧ w = c.view ∧ m = c.offer w p) ∨ ∃ k x, (k = 4 ∨ k = 5) ∧ c.T k c.view c.me = some x ∧ m = c.vote k x
theorem again_ok (c : CoD) : ∀ m ∈ c.again, AgOk c m := by
  intro m hm
  unfold CoD.again at hm
  rcases List.mem_append.1 hm with hm | hm
  · rcases List.mem_append.1 hm with hm | hm
    · cases hp : c.prop c.view with
      | none => rw [hp] at hm; cases hm
      | some p =>
        rw [hp] at hm
        simp only at hm
        split at hm
        · rw [List.mem_singleton] at hm; exact .inl ⟨_, p, hp, rfl, hm⟩
        · cases hm
    · cases hp : c.T 4 c.view c.me with
      | none => rw [hp] at hm; cases hm
      | some x => rw [hp] at hm; exact .inr ⟨4, x, .inl rfl, hp, by simpa using hm⟩
  · cases hp : c.T 5 c.view c.me with
    | none => rw [hp] at hm; cases hm
    | some x => rw [hp] at hm; exact .inr ⟨5, x, .inr rfl, hp, by simpa using hm⟩
theorem out_nil (c : CoD) : ({ c with out := c.out ++ ([] : List MsV).map fun m => ⟨-1, m⟩ } : CoD) = c := by simp
theorem out_cons (c : CoD) (m : MsV) (M : List MsV) : ({ c with out := c.out ++ (m :: M).map fun m => (⟨-1, m⟩ : AcV) } : CoD) = { c.send m with out := (c.send m).out ++ M.map fun m => (⟨-1, m⟩ : AcV) } := by
  unfold CoD.send
  simp
theorem spk_out (M : List MsV) : ∀ c : CoD, Spk N i0 c → c.dec.length ≤ 1000 → (∀ m ∈ M, AgOk c m) → Spk N i0 { c with out := c.out ++ M.map fun m => (⟨-1, m⟩ : AcV) } := by
  induction M with
  | nil => intro c h _ _; rw [out_nil]; exact h
  | cons m M ih =>
    intro c h hd hM
    rw [out_cons]
    refine ih (c.send m) ?_ hd fun q hq => hM q (List.mem_cons_of_mem _ hq)
    have hix : 0 ≤ (c.dec.length : Int) ∧ (c.dec.length : Int) ≤ 1000 := ⟨Int.natCast_nonneg _, by omega⟩
    rcases hM m (List.mem_cons_self ..) with ⟨w, p, hp, rfl, rfl⟩ | ⟨k, x, hk, hx, rfl⟩
    · have := h.1.pr _ _ hp
      exact spk_send h ⟨hix, .inl ⟨rfl, this.1, h.1.rv, this.2.1, this.2.2⟩⟩ rfl rfl fun _ => Int.le_refl _
    · have := h.1.tab _ _ _ _ hx
      exact spk_send h ⟨hix, .inr (.inl ⟨hk, this.2.2.2, h.1.rv, rfl⟩)⟩ rfl rfl fun _ => Int.le_refl _
theorem spk_resend (h : Spk N i0 c) : Spk N i0 c.resend := by
  unfold CoD.resend
  split
  · exact h
  · rename_i h0
    exact spk_out _ c h (h.1.di h0) fun m hm => again_ok c m ((List.mem_filter.1 hm).1)
theorem spk_handle (h : Spk N i0 c) (hm : m.Ok N) (h0 : N 0) (hf : 0 ≤ m.fm) (kn : List Int) : Spk N i0 (c.handle m kn) := by
  unfold CoD.handle
  split
  · exact h
  · rename_i hc
    split
    · rename_i hlt
      split
      · exact h
      · exact spk_reply h ⟨hm.1.1, hlt⟩ ⟨hf, by omega⟩
    · exact spk_settle (spk_hear h hm) h0 kn
theorem spk_tick (h : Spk N i0 c) (h0 : N 0) {tip : Int} (ht : N tip) (kn : List Int) : Spk N i0 (c.tick kn tip) := by
  unfold CoD.tick
  split
  · exact h
  · rename_i hd
    exact spk_resend (spk_settle (spk_tock (spk_tip h ht) (by show c.dec.length ≤ 1000; omega)) h0 kn)
end
def CoD.Like (c d : CoD) : Prop := d.me = c.me ∧ d.t = c.t ∧ d.base = c.base ∧ d.most = c.most
section
variable {c d e : CoD}
theorem CoD.Like.refl (c : CoD) : c.Like c := ⟨rfl, rfl, rfl, rfl⟩
theorem CoD.Like.trans (h : c.Like d) (k : d.Like e) : c.Like e := ⟨k.1.trans h.1, k.2.1.trans h.2.1, k.2.2.1.trans h.2.2.1, k.2.2.2.trans h.2.2.2⟩
theorem like_enter (c : CoD) (w : Int) : c.Like (c.enter w) := by
  unfold CoD.enter
  simp only
  split <;> exact ⟨rfl, rfl, rfl, rfl⟩
theorem like_cast (c : CoD) (k x : Int) : c.Like (c.cast k x) := by
  unfold CoD.cast
  split <;> exact ⟨rfl, rfl, rfl, rfl⟩
theorem like_castTo (c : CoD) (k x s : Int) : c.Like ((c.cast k x).to s) := (like_cast c k x).trans ⟨rfl, rfl, rfl, rfl⟩
theorem like_lock (c : CoD) (x : Int) : c.Like (c.lock x) := by
  unfold CoD.lock
  split <;> exact ⟨rfl, rfl, rfl, rfl⟩
theorem like_step1 {kn : List Int} (h : c.step1 kn = some d) : c.Like d := by
  unfold CoD.step1 at h
  split at h
  · cases h
  split at h
  · injection h with h; subst h; exact ⟨rfl, rfl, rfl, rfl⟩
  split at h
  · cases h
  split at h
  · injection h with h; subst h; exact like_enter c _
  split at h
  · unfold CoD.step3 at h
    split at h
    · cases h
    · split at h
      · injection h with h; subst h; exact like_castTo c _ _ _
      · cases h
  · unfold CoD.step45 at h
    split at h
    · cases h
    · split at h
      · split at h
        · injection h with h; subst h; exact (like_lock c _).trans (like_castTo _ _ _ _)
        · cases h
      · split at h
        · injection h with h; subst h; exact ⟨rfl, rfl, rfl, rfl⟩
        · cases h
theorem like_settle (c : CoD) (kn : List Int) : c.Like (c.settle kn) := settle_ind (fun d => c.Like d) (fun _ _ h hd => h.trans (like_step1 hd)) (CoD.Like.refl c)
theorem like_hear (c : CoD) (m : MsV) : c.Like (c.hear m) := by
  unfold CoD.hear
  split
  · split <;> exact ⟨rfl, rfl, rfl, rfl⟩
  · split
    · split <;> exact ⟨rfl, rfl, rfl, rfl⟩
    · exact ⟨rfl, rfl, rfl, rfl⟩
theorem like_handle (c : CoD) (m : MsV) (kn : List Int) : c.Like (c.handle m kn) := by
  unfold CoD.handle
  split
  · exact CoD.Like.refl c
  · split
    · split <;> exact ⟨rfl, rfl, rfl, rfl⟩
    · exact (like_hear c m).trans (like_settle _ kn)
theorem like_tock (c : CoD) : c.Like c.tock := by
  unfold CoD.tock
  split
  · exact like_enter c 0
  · simp only
    have h : c.Like { c with left := tck c.left } := ⟨rfl, rfl, rfl, rfl⟩
    split
    · split
      · exact h.trans (like_castTo _ _ _ _)
      · split
        · exact h.trans (like_castTo _ _ _ _)
        · split
          · exact h.trans (like_enter _ _)
          · exact ⟨rfl, rfl, rfl, rfl⟩
    · exact h
theorem like_resend (c : CoD) : c.Like c.resend := by
  unfold CoD.resend
  split <;> exact ⟨rfl, rfl, rfl, rfl⟩
theorem like_tick (c : CoD) (kn : List Int) (tip : Int) : c.Like (c.tick kn tip) := by
  unfold CoD.tick
  split
  · exact ⟨rfl, rfl, rfl, rfl⟩
  · exact (((show c.Like { c with tip := tip } from ⟨rfl, rfl, rfl, rfl⟩).trans (like_tock _)).trans (like_settle _ kn)).trans (like_resend _)
end
end Go.Proofs.YtajkjiegcmpjaaaGreat
namespace Go.Proofs.YtajkjiegcmpjaaaGreat
set_option maxRecDepth 100000
section
variable {d : MsgD}
def NV (n : Int) : Prop := n = 0 ∨ NmOk n
instance (n : Int) : Decidable (NV n) := by unfold NV; infer_instance
def Bad (d : MsgD) : Prop := (d.kd ≠ 0 ∧ d.tx ≠ TxD.zero) ∨ (d.kd ≠ 1 ∧ d.bk ≠ BlkD.zero) ∨ (d.kd ≠ 3 ∧ d.pr ≠ 0)
instance (d : MsgD) : Decidable (Bad d) := by unfold Bad; infer_instance
theorem good_tx (h : ¬ Bad d) (hk : d.kd ≠ 0) : d.tx = TxD.zero := by
  by_cases e : d.tx = TxD.zero
  · exact e
  · exact absurd (.inl ⟨hk, e⟩) h
theorem good_bk (h : ¬ Bad d) (hk : d.kd ≠ 1) : d.bk = BlkD.zero := by
  by_cases e : d.bk = BlkD.zero
  · exact e
  · exact absurd (.inr (.inl ⟨hk, e⟩)) h
theorem good_pr (h : ¬ Bad d) (hk : d.kd ≠ 3) : d.pr = 0 := by
  by_cases e : d.pr = 0
  · exact e
  · exact absurd (.inr (.inr ⟨hk, e⟩)) h
theorem ref_0 (hk : d.kd = 0) (hf : In 0 6 d.fm) (hg : ¬ Bad d) (hi : d.ix = 0) (hv : d.vw = 0) (hl : d.vl = 0) : decide d.Right = decide d.tx.Right := by
  apply decide_eq_decide.2
  simp only [MsgD.Right, hf, hk, show In 0 6 0 from by decide, good_bk hg (by omega), good_pr hg (by omega), hi, hv, hl]
  simp
theorem ref_1 (hk : d.kd = 1) (hf : In 0 6 d.fm) (hg : ¬ Bad d) (hi : d.ix = 0) (hv : d.vw = 0) (hl : d.vl = 0) : decide d.Right = decide d.bk.Right := by
  apply decide_eq_decide.2
  simp only [MsgD.Right, hf, hk, show In 0 6 1 from by decide, good_tx hg (by omega), good_pr hg (by omega), hi, hv, hl]
  simp
theorem vOk_nv {k v : Int} (hk : k ≠ 4 ∧ k ≠ 5) : VOk k v ↔ NV v := ⟨fun h => h.elim (fun h => by omega) (fun h => h), fun h => .inr h⟩
theorem vOk_nv' {k v : Int} (hk : k = 4 ∨ k = 5) : VOk k v ↔ v = -1 ∨ NV v := ⟨fun h => h.elim (fun h => .inl h.1) .inr, fun h => h.elim (fun h => .inl ⟨h, hk⟩) .inr⟩
theorem ref_2 (hk : d.kd = 2) (hf : In 0 6 d.fm) (hg : ¬ Bad d) (hi : d.ix = 0) (hv : d.vw = 0) : decide d.Right = decide (NV d.vl) := by
  apply decide_eq_decide.2
  simp only [MsgD.Right, hf, hk, show In 0 6 2 from by decide, good_tx hg (by omega), good_bk hg (by omega), good_pr hg (by omega), hi, hv]
  simpa using vOk_nv (by omega)
theorem ref_3 (hk : d.kd = 3) (hf : In 0 6 d.fm) (hg : ¬ Bad d) (hi : In 0 1000 d.ix) (hv : In 0 1000 d.vw) (hn : NV d.vl) (hp : -1 ≤ d.pr) : decide d.Right = decide (d.pr < d.vw) := by
  apply decide_eq_decide.2
  simp only [MsgD.Right, hf, hk, show In 0 6 3 from by decide, good_tx hg (by omega), good_bk hg (by omega), hi, hv, (vOk_nv (k := 3) (by omega)).2 hn, hp]
  simp
theorem ref_45 (hk : d.kd = 4 ∨ d.kd = 5) (hf : In 0 6 d.fm) (hg : ¬ Bad d) (hi : In 0 1000 d.ix) (hv : In 0 1000 d.vw) : d.Right ↔ d.vl = -1 ∨ NV d.vl := by
  have h0 : In 0 6 d.kd := by unfold In; omega
  simp only [MsgD.Right, hf, h0, good_tx hg (by omega), good_bk hg (by omega), good_pr hg (by omega), hi, hv]
  have e0 : ¬ d.kd = 0 := by omega
  have e1 : ¬ d.kd = 1 := by omega
  have e2 : 2 ≤ d.kd := by omega
  have e3 : 3 ≤ d.kd := by omega
  have e5 : d.kd ≤ 5 := by omega
  have e6 : ¬ d.kd = 3 := by omega
  simpa [e0, e1, e2, e3, e5, e6] using vOk_nv' hk
theorem ref_6 (hk : d.kd = 6) (hf : In 0 6 d.fm) (hg : ¬ Bad d) (hi : In 0 1000 d.ix) (hv : d.vw = 0) : decide d.Right = decide (NV d.vl) := by
  apply decide_eq_decide.2
  simp only [MsgD.Right, hf, hk, show In 0 6 6 from by decide, good_tx hg (by omega), good_bk hg (by omega), good_pr hg (by omega), hi, hv]
  simpa using vOk_nv (by omega)
theorem MsgD.Right.fm (h : d.Right) : In 0 6 d.fm := h.1
theorem MsgD.Right.kd6 (h : d.Right) : In 0 6 d.kd := h.2.1
theorem MsgD.Right.txNo (h : d.Right) (hk : d.kd ≠ 0) : d.tx = TxD.zero := by have := h.2.2.1; rwa [if_neg hk] at this
theorem MsgD.Right.bkNo (h : d.Right) (hk : d.kd ≠ 1) : d.bk = BlkD.zero := by have := h.2.2.2.1; rwa [if_neg hk] at this
theorem MsgD.Right.ixOk (h : d.Right) (hk : 3 ≤ d.kd) : In 0 1000 d.ix := by have := h.2.2.2.2.1; rwa [if_pos hk] at this
theorem MsgD.Right.ixNo (h : d.Right) (hk : ¬ 3 ≤ d.kd) : d.ix = 0 := by have := h.2.2.2.2.1; rwa [if_neg hk] at this
theorem MsgD.Right.vwOk (h : d.Right) (hk : 3 ≤ d.kd ∧ d.kd ≤ 5) : In 0 1000 d.vw := by have := h.2.2.2.2.2.1; rwa [if_pos hk] at this
theorem MsgD.Right.vwNo (h : d.Right) (hk : ¬ (3 ≤ d.kd ∧ d.kd ≤ 5)) : d.vw = 0 := by have := h.2.2.2.2.2.1; rwa [if_neg hk] at this
theorem MsgD.Right.vlOk (h : d.Right) (hk : 2 ≤ d.kd) : VOk d.kd d.vl := by have := h.2.2.2.2.2.2.1; rwa [if_pos hk] at this
theorem MsgD.Right.vlNo (h : d.Right) (hk : ¬ 2 ≤ d.kd) : d.vl = 0 := by have := h.2.2.2.2.2.2.1; rwa [if_neg hk] at this
theorem MsgD.Right.prOk (h : d.Right) (hk : d.kd = 3) : -1 ≤ d.pr ∧ d.pr < d.vw := by have := h.2.2.2.2.2.2.2; rwa [if_pos hk] at this
theorem MsgD.Right.prNo (h : d.Right) (hk : d.kd ≠ 3) : d.pr = 0 := by have := h.2.2.2.2.2.2.2; rwa [if_neg hk] at this
end
end Go.Proofs.YtajkjiegcmpjaaaGreat
namespace Go.Proofs.YtajkjiegcmpjaaaGreat
set_option maxRecDepth 100000
theorem NV.zero : NV 0 := .inl rfl
def MsV.msg (m : MsV) : MsgD := ⟨m.kd, m.fm, m.ix, m.vw, m.vl, m.pr, TxD.zero, BlkD.zero⟩
def MsgD.msv (d : MsgD) : MsV := ⟨d.kd, d.fm, d.ix, d.vw, d.vl, d.pr⟩
theorem msv_msg (m : MsV) : m.msg.msv = m := rfl
theorem MsV.Ok.right {m : MsV} (h : m.Ok NV) (hf : 0 ≤ m.fm ∧ m.fm ≤ 6) : m.msg.Right := by
  obtain ⟨hx, h⟩ := h
  unfold MsgD.Right MsV.msg
  simp only
  have hk : 3 ≤ m.kd ∧ m.kd ≤ 6 := by rcases h with q | q | q <;> omega
  refine ⟨hf, ⟨by omega, hk.2⟩, ?_, ?_, ?_, ?_, ?_, ?_⟩
  · rw [if_neg (by omega)]; trivial
  · rw [if_neg (by omega)]; trivial
  · rw [if_pos hk.1]; exact hx
  · rcases h with q | q | q
    · rw [if_pos (by omega)]; exact q.2.2.1
    · rw [if_pos (by omega)]; exact q.2.2.1
    · rw [if_neg (by omega)]; exact q.2.2.1
  · rw [if_pos (by omega)]
    rcases h with q | q | q
    · exact .inr q.2.1
    · rcases q.2.1 with e | e
      · exact .inl ⟨e, q.1⟩
      · exact .inr e
    · exact .inr q.2.1
  · rcases h with q | q | q
    · rw [if_pos q.1]; exact q.2.2.2
    · rw [if_neg (by omega)]; exact q.2.2.2
    · rw [if_neg (by omega)]; exact q.2.2.2
theorem MsgD.Right.heard {d : MsgD} (h : d.Right) (hk : 3 ≤ d.kd) : d.msv.Ok NV ∧ d.msv.msg = d ∧ (0 ≤ d.fm ∧ d.fm ≤ 6) := by
  obtain ⟨k, f, i, v, x, p, t, b⟩ := d
  obtain ⟨h1, h2, h3, h4, h5, h6, h7, h8⟩ := h
  simp only at hk h1 h2 h3 h4 h5 h6 h7 h8
  rw [if_neg (by omega)] at h3 h4
  rw [if_pos hk] at h5
  rw [if_pos (by omega)] at h7
  refine ⟨⟨h5, ?_⟩, by unfold MsV.msg MsgD.msv; simp only; rw [h3, h4], h1⟩
  unfold MsgD.msv
  simp only
  have hk6 := h2.2
  by_cases e3 : k = 3
  · subst e3
    rw [if_pos (by decide)] at h6
    rw [if_pos rfl] at h8
    refine .inl ⟨rfl, ?_, h6, h8⟩
    rcases h7 with q | q
    · omega
    · exact q
  · rw [if_neg e3] at h8
    by_cases e6 : k = 6
    · subst e6
      rw [if_neg (by decide)] at h6
      refine .inr (.inr ⟨rfl, ?_, h6, h8⟩)
      rcases h7 with q | q
      · omega
      · exact q
    · rw [if_pos (by omega)] at h6
      refine .inr (.inl ⟨by omega, ?_, h6, h8⟩)
      rcases h7 with q | q
      · exact .inl q.1
      · exact .inr q
theorem nv_known : NV 65536 ∧ NV 131072 ∧ NV 196608 := by
  refine ⟨.inr ?_, .inr ?_, .inr ?_⟩ <;> decide
end Go.Proofs.YtajkjiegcmpjaaaGreat
