/- What is done with a chain, among a law's parameters. -/
import Derived.Test.YtpnbkgeglgiihaaTLA
namespace Go.Proofs.Ytpnbkgeglgiihaa
set_option maxRecDepth 100000
open Go.RowKit Go.ChangeShapes Go.WideShapes Go.ChangeAt

structure ActC where
  k : Int
  n : Int
  b : BlkD
  txs : List TxD
instance : Inhabited ActC := ⟨⟨0, 0, ⟨0, 0, 0, 0, []⟩, []⟩⟩
def aRow (d : ActC) (u t : Value) : List Value := [.int .i64 d.k, .int .i64 d.n, .int .i64 d.b.slot, .int .i64 d.b.miner, .int .i64 d.b.var, .int .i64 d.b.parent, u, t]
structure ActOk (d : ActC) : Prop where
  raw : d.b.Raw
  few : d.b.txs.length * 16 ≤ 140737488355328
  few2 : d.txs.length * 16 ≤ 140737488355328
  n : I64 d.n
def ActCR (w : World) (row : List Value) (d : ActC) : Prop := (∃ u t, row = aRow d u t ∧ Recs 2 TxR w u d.b.txs ∧ Recs 2 TxR w t d.txs) ∧ ActOk d
theorem ActCR.stays : Stays ActCR := fun _ _ _ _ ⟨⟨u, t, h1, h2, h3⟩, h4⟩ he => ⟨⟨u, t, h1, h2.ext TxR.stays he, h3.ext TxR.stays he⟩, h4⟩
theorem Try.elAC : ElS Try.prog 33 41 8 := ElS.of Try.underlying33 (by kernel_rfl)
theorem Try.stAC : StN Try.prog 41 8 [.int .i64 0, .int .i64 0, .int .i64 0, .int .i64 0, .int .i64 0, .int .i64 0, .slice none 0 0, .slice none 0 0] := StN.of (by kernel_rfl) (by kernel_rfl) rfl
theorem Try.stBlkN : StN Try.prog 30 5 [.int .i64 0, .int .i64 0, .int .i64 0, .int .i64 0, .slice none 0 0] := StN.of (by kernel_rfl) (by kernel_rfl) rfl
theorem actc_one {w : World} {d : ActC} {u t : Value} (hu : Recs 2 TxR w u d.b.txs) (ht : Recs 2 TxR w t d.txs) : ∀ x ∈ aRow d u t, x.oneCell' = true := by
  have h1 := hu.one'
  have h2 := ht.one'
  intro x hx
  simp only [aRow, List.mem_cons, List.not_mem_nil, or_false] at hx
  rcases hx with rfl | rfl | rfl | rfl | rfl | rfl | rfl | rfl
  all_goals first | rfl | assumption
/-- The block's cells within. -/
theorem blk_at (d : ActC) (u t : Value) : ∀ (j : Nat) (x : Value), (bRow d.b u)[j]? = some x → (aRow d u t)[2 + j]? = some x := fun j x h => by
  match j, h with
  | 0, h => exact h
  | 1, h => exact h
  | 2, h => exact h
  | 3, h => exact h
  | 4, h => exact h
  | j + 5, h => simp [bRow] at h
section
variable {H : Type} {enc : TypeId × Value → H} {W : World}
theorem rd_ActC {fuel : Nat} {cs : List Value} {y : DataW H × List MemPlace} (hlen : cs.length = 8) (hy : DataW.trod enc Try.prog W 0 (fun _ => true) true fuel 41 cs = some y) (hw : Fits Try.prog 41 y.1) : ∃ d, ActCR W cs d := by
  obtain ⟨xs, m, _, rfl, _, hxl, hf⟩ := DataW.trod_struct Try.underlying41 hy
  match xs, hxl, cs, hlen with
  | [y0, y1, y2, y3], _, [c0, c1, c2, c3, c4, c5, c6, c7], _ =>
    have k0 : DataW.trod enc Try.prog W 0 (fun _ => true) true m 3 [c0] = some y0 := hf 0 _ rfl
    have k1 : DataW.trod enc Try.prog W 0 (fun _ => true) true m 3 [c1] = some y1 := hf 1 _ rfl
    have k2 : DataW.trod enc Try.prog W 0 (fun _ => true) true m 30 [c2, c3, c4, c5, c6] = some y2 := hf 2 _ rfl
    have k3 : DataW.trod enc Try.prog W 0 (fun _ => true) true m 28 [c7] = some y3 := hf 3 _ rfl
    simp only [List.map_cons, List.map_nil] at hw
    obtain ⟨a0, e0, _, _⟩ := DataW.trod_int Try.underlying3 k0
    obtain ⟨a1, e1, _, b1⟩ := DataW.trod_int Try.underlying3 k1
    injection e0 with e0 _
    injection e1 with e1 _
    subst e0 e1
    obtain ⟨b, ⟨⟨u, e2, hr⟩, hraw⟩, hfew⟩ := rd_BlkL (y := y2) rfl k2 (hw.part Try.underlying41 (j := 2) rfl rfl)
    obtain ⟨l4, g4, b4⟩ := rd_recs (d := y3.1) (pl := y3.2) (n := 2) (R := TxR) Try.underlying28 (by kernel_rfl) (fun fuel cs y hlen hy hw => rd_Tx hlen hy hw) k3 (hw.part Try.underlying41 (j := 3) rfl rfl)
    rw [show Try.prog.bytesOf 65 = 16 from by kernel_rfl] at b4
    have hb : reachBytes ≤ 140737488355328 := by decide
    injection e2 with e2 e3
    injection e3 with e3 e4
    injection e4 with e4 e5
    injection e5 with e5 e6
    injection e6 with e6 _
    subst e2 e3 e4 e5 e6
    refine ⟨⟨a0, a1, b, l4⟩, ⟨c6, c7, rfl, hr, g4⟩, ⟨hraw, hfew, by show l4.length * 16 ≤ _; omega, ?_⟩⟩
    simp [Lit.wf, IntKind.min, IntKind.max, IntKind.signed, IntKind.bits] at b1
    exact (show I64 a1 from ⟨by omega, by omega⟩)
theorem arg_Acts11 {base : Nat} {v : Value} {d : DataW H} {ps : List MemPlace} {ts : List TypeId} {ds : List (DataW H)} (hsz : (DataW.weightsEach Try.prog ts ds).all (· ≤ reachBytes) = true) {j : Nat} (ht : ts[j]? = some 33) (hd : ds[j]? = some d)
    (hval : Value.okWide Try.prog W .any base 33 v) (h : DataW.Trod enc Try.prog W 0 (fun _ => true) true 33 v d ps) : ∃ l : List ActC, Recs 8 ActCR W v l := by
  obtain ⟨a0, len0, cap0, rfl⟩ := okWide_slice Try.underlying33 hval
  obtain ⟨fuel, hf⟩ := h
  obtain ⟨l, hl, _⟩ := rd_recs (n := 8) (R := ActCR) Try.underlying33 (by kernel_rfl) (fun fuel cs y hlen hy hw => rd_ActC hlen hy hw) hf (fits_arg hsz ht hd)
  exact ⟨l, hl⟩
/-- &acts[i] of what a law is handed. -/
theorem w_actidx {P : Program} {ops : Array Oper} {rest : List Oper} {o : Oper} {a : Act} {Q : Exit → Act → World → Prop} {w W0 : World} {t e : TypeId} {v : Value} {l : List ActC} (E : ElS P t e 8) (x y : Operand) (i : Nat) (hgd : o.guard = none) (ho : o.op = .indexAddr t x y) (hv : a.eval x = v) (hy : a.eval y = .int .i64 i)
    (h : Recs 8 ActCR W0 v l) (he : Ext W0 w) {d : ActC} (hd : l[i]? = some d) (k : ∀ p u t, RowAt w p (aRow d u t) → Recs 2 TxR W0 u d.b.txs → Recs 2 TxR W0 t d.txs → wpList P ops Q rest (a.put o.dst (.pointer (some p))) w) : wpList P ops Q (o :: rest) a w := by
  have hi := (List.getElem?_eq_some_iff.1 hd).1
  have e : l[i] = d := (List.getElem?_eq_some_iff.1 hd).2
  refine w_ridx0 E x y i ActCR.stays hgd ho hv hy h he hi ?_
  rintro pa row hrow _ ⟨⟨u, t, rfl, hu, ht⟩, _⟩
  rw [e] at hrow hu ht
  exact k pa u t (hrow.ext he) hu ht
theorem acts_at {W : World} {v : Value} {l : List ActC} (h : Recs 8 ActCR W v l) {i : Nat} {d : ActC} (hd : l[i]? = some d) : ActOk d := by
  obtain ⟨rows, ⟨A, c, _, _⟩, hl, hr⟩ := h
  have hi := (List.getElem?_eq_some_iff.1 hd).1
  exact (hr i _ d (List.getElem?_eq_getElem (by omega)) hd).2
end
end Go.Proofs.Ytpnbkgeglgiihaa
