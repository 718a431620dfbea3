/- A block, among a law's parameters. -/
import Derived.Test.YtdacclcaopmalaaBlkM
import Derived.Test.YtdacclcaopmalaaTXB
namespace Go.Proofs.Ytdacclcaopmalaa
set_option maxRecDepth 100000
open Go.RowKit Go.ChangeShapes Go.WideShapes Go.ChangeAt

instance : Inhabited BlkD := ⟨⟨0, 0, 0, 0, []⟩⟩
structure BlkD.Raw (d : BlkD) : Prop where
  slot : -9223372036854775808 ≤ d.slot ∧ d.slot ≤ 9223372036854775807
  miner : -9223372036854775808 ≤ d.miner ∧ d.miner ≤ 9223372036854775807
  var : -9223372036854775808 ≤ d.var ∧ d.var ≤ 9223372036854775807
  parent : -9223372036854775808 ≤ d.parent ∧ d.parent ≤ 9223372036854775807
  txs : ∀ x ∈ d.txs, x.Raw
/-- The cells of a record. -/
def BlkR (w : World) (row : List Value) (d : BlkD) : Prop := (∃ u4 : Value, row = [.int .i64 d.slot, .int .i64 d.miner, .int .i64 d.var, .int .i64 d.parent, u4] ∧ Recs 2 TxR w u4 d.txs) ∧ d.Raw
theorem BlkR.stays : Stays BlkR := fun _ _ _ _ ⟨⟨u4, h0, h5⟩, ho⟩ he => ⟨⟨u4, h0, h5.ext TxR.stays he⟩, ho⟩
theorem Try.stBlk : St Try.prog 54 5 [.int .i64 0, .int .i64 0, .int .i64 0, .int .i64 0, .slice none 0 0] := St.of (by kernel_rfl) (by kernel_rfl) rfl
section
variable {H : Type} {enc : TypeId × Value → H} {W : World}
theorem rd_Blk {fuel : Nat} {cs : List Value} {y : DataW H × List MemPlace} (hlen : cs.length = 5) (hy : DataW.trod enc Try.prog W 0 (fun _ => true) true fuel 54 cs = some y) (hw : Fits Try.prog 54 y.1) : ∃ d, BlkR W cs d := by
  obtain ⟨xs, m, _, rfl, _, hxl, hf⟩ := DataW.trod_struct Try.underlying54 hy
  match xs, hxl, cs, hlen with
  | [y0, y1, y2, y3, y4], _, [c0, c1, c2, c3, c4], _ =>
    have k0 : DataW.trod enc Try.prog W 0 (fun _ => true) true m 3 [c0] = some y0 := hf 0 _ rfl
    have k1 : DataW.trod enc Try.prog W 0 (fun _ => true) true m 3 [c1] = some y1 := hf 1 _ rfl
    have k2 : DataW.trod enc Try.prog W 0 (fun _ => true) true m 3 [c2] = some y2 := hf 2 _ rfl
    have k3 : DataW.trod enc Try.prog W 0 (fun _ => true) true m 3 [c3] = some y3 := hf 3 _ rfl
    have k4 : DataW.trod enc Try.prog W 0 (fun _ => true) true m 23 [c4] = some y4 := hf 4 _ rfl
    simp only [List.map_cons, List.map_nil] at hw
    obtain ⟨a0, e0, _, b0⟩ := DataW.trod_int Try.underlying3 k0
    injection e0 with e0 _
    subst e0
    obtain ⟨a1, e1, _, b1⟩ := DataW.trod_int Try.underlying3 k1
    injection e1 with e1 _
    subst e1
    obtain ⟨a2, e2, _, b2⟩ := DataW.trod_int Try.underlying3 k2
    injection e2 with e2 _
    subst e2
    obtain ⟨a3, e3, _, b3⟩ := DataW.trod_int Try.underlying3 k3
    injection e3 with e3 _
    subst e3
    obtain ⟨l4, g4, _⟩ := rd_recs (d := y4.1) (pl := y4.2) (n := 2) (R := TxR) Try.underlying23 (by kernel_rfl) (fun fuel cs y hlen hy hw => rd_Tx hlen hy hw) k4 (hw.part Try.underlying54 (j := 4) rfl rfl)
    exact ⟨⟨a0, a1, a2, a3, l4⟩, ⟨c4, rfl, g4⟩, ⟨i64_wf b0, i64_wf b1, i64_wf b2, i64_wf b3, recs_ok_of g4 fun _ _ _ h => h.2⟩⟩
theorem arg_Blk {base : Nat} {v : Value} {d : DataW H} {ps : List MemPlace} {ts : List TypeId} {ds : List (DataW H)} (hsz : (DataW.weightsEach Try.prog ts ds).all (· ≤ reachBytes) = true) {j : Nat} (ht : ts[j]? = some 54) (hd : ds[j]? = some d)
    (hval : Value.okWide Try.prog W .any base 54 v) (h : DataW.Trod enc Try.prog W 0 (fun _ => true) true 54 v d ps) : ∃ (row : List Value) (x : BlkD), v = .agg row.toArray ∧ row.length = 5 ∧ BlkR W row x := by
  have hu := Try.underlying54
  simp only [Value.okWide, hu] at hval
  obtain ⟨cs, rfl, hcs, _⟩ := hval
  have hc : Try.prog.cellsOf 54 = 5 := by kernel_rfl
  rw [hc] at hcs
  obtain ⟨fuel, hf⟩ := h
  obtain ⟨x, hx⟩ := rd_Blk (cs := cs.toList) (by simpa using hcs) hf (fits_arg hsz ht hd)
  exact ⟨cs.toList, x, by simp, by simpa using hcs, hx⟩
end
end Go.Proofs.Ytdacclcaopmalaa
