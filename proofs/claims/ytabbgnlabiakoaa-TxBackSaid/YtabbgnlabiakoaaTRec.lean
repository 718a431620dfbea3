/- A transaction, among a law's parameters. -/
import Derived.Test.YtabbgnlabiakoaaRecsArg
import Derived.Test.YtabbgnlabiakoaaTxN
import Derived.Test.YtabbgnlabiakoaaRowRec
namespace Go.Proofs.Ytabbgnlabiakoaa
open Go.RowKit Go.ChangeShapes Go.WideShapes Go.ChangeAt

theorem i64_wf {n : Int} (h : (Lit.int .i64 n).wf = true) : -9223372036854775808 ≤ n ∧ n ≤ 9223372036854775807 := by
  simp [Lit.wf, IntKind.min, IntKind.max, IntKind.signed, IntKind.bits] at h; omega
/-- What every record of a slice is. -/
theorem recs_ok_of {α : Type} {n : Nat} {R : World → List Value → α → Prop} {w : World} {v : Value} {l : List α} {p : α → Prop} (h : Recs n R w v l) (hp : ∀ w row d, R w row d → p d) : ∀ d ∈ l, p d := by
  obtain ⟨rows, _, hl, hr⟩ := h
  intro d hd
  obtain ⟨k, hk, rfl⟩ := List.getElem_of_mem hd
  exact hp _ _ _ (hr k _ _ (List.getElem?_eq_getElem (by omega)) (List.getElem?_eq_getElem hk))
instance : Inhabited TxD := ⟨⟨0, 0⟩⟩
structure TxD.Raw (d : TxD) : Prop where
  id : -9223372036854775808 ≤ d.id ∧ d.id ≤ 9223372036854775807
  fee : -9223372036854775808 ≤ d.fee ∧ d.fee ≤ 9223372036854775807
/-- The cells of a record. -/
def TxR (_w : World) (row : List Value) (d : TxD) : Prop := (row = [.int .i64 d.id, .int .i64 d.fee]) ∧ d.Raw
theorem TxR.stays : Stays TxR := fun _ _ _ _ h _ => h
theorem Try.stTx : St Try.prog 23 2 [.int .i64 0, .int .i64 0] := St.of (by kernel_rfl) (by kernel_rfl) rfl
theorem Try.elTx : ElS Try.prog 35 23 2 := ElS.of Try.underlying35 (by kernel_rfl)
section
variable {H : Type} {enc : TypeId × Value → H} {W : World}
theorem rd_Tx {fuel : Nat} {cs : List Value} {y : DataW H × List MemPlace} (hlen : cs.length = 2) (hy : DataW.trod enc Try.prog W 0 (fun _ => true) true fuel 23 cs = some y) (hw : Fits Try.prog 23 y.1) : ∃ d, TxR W cs d := by
  obtain ⟨xs, m, _, rfl, _, hxl, hf⟩ := DataW.trod_struct Try.underlying23 hy
  match xs, hxl, cs, hlen with
  | [y0, y1], _, [c0, c1], _ =>
    have k0 : DataW.trod enc Try.prog W 0 (fun _ => true) true m 3 [c0] = some y0 := hf 0 _ rfl
    have k1 : DataW.trod enc Try.prog W 0 (fun _ => true) true m 3 [c1] = some y1 := hf 1 _ rfl
    simp only [List.map_cons, List.map_nil] at hw
    obtain ⟨a0, e0, _, b0⟩ := DataW.trod_int Try.underlying3 k0
    injection e0 with e0 _
    subst e0
    obtain ⟨a1, e1, _, b1⟩ := DataW.trod_int Try.underlying3 k1
    injection e1 with e1 _
    subst e1
    exact ⟨⟨a0, a1⟩, rfl, ⟨i64_wf b0, i64_wf b1⟩⟩
theorem arg_Tx {base : Nat} {v : Value} {d : DataW H} {ps : List MemPlace} {ts : List TypeId} {ds : List (DataW H)} (hsz : (DataW.weightsEach Try.prog ts ds).all (· ≤ reachBytes) = true) {j : Nat} (ht : ts[j]? = some 23) (hd : ds[j]? = some d)
    (hval : Value.okWide Try.prog W .any base 23 v) (h : DataW.Trod enc Try.prog W 0 (fun _ => true) true 23 v d ps) : ∃ (row : List Value) (x : TxD), v = .agg row.toArray ∧ row.length = 2 ∧ TxR W row x := by
  have hu := Try.underlying23
  simp only [Value.okWide, hu] at hval
  obtain ⟨cs, rfl, hcs, _⟩ := hval
  have hc : Try.prog.cellsOf 23 = 2 := by kernel_rfl
  rw [hc] at hcs
  obtain ⟨fuel, hf⟩ := h
  obtain ⟨x, hx⟩ := rd_Tx (cs := cs.toList) (by simpa using hcs) hf (fits_arg hsz ht hd)
  exact ⟨cs.toList, x, by simp, by simpa using hcs, hx⟩
theorem arg_Txs {base : Nat} {v : Value} {d : DataW H} {ps : List MemPlace} {ts : List TypeId} {ds : List (DataW H)} (hsz : (DataW.weightsEach Try.prog ts ds).all (· ≤ reachBytes) = true) {j : Nat} (ht : ts[j]? = some 35) (hd : ds[j]? = some d)
    (hval : Value.okWide Try.prog W .any base 35 v) (h : DataW.Trod enc Try.prog W 0 (fun _ => true) true 35 v d ps) : ∃ l : List TxD, Recs 2 TxR W v l := by
  obtain ⟨a0, len0, cap0, rfl⟩ := okWide_slice Try.underlying35 hval
  obtain ⟨fuel, hf⟩ := h
  obtain ⟨l, hl, _⟩ := rd_recs (n := 2) (R := TxR) Try.underlying35 (by kernel_rfl) (fun fuel cs y hlen hy hw => rd_Tx hlen hy hw) hf (fits_arg hsz ht hd)
  exact ⟨l, hl⟩
theorem arg_TxsL {base : Nat} {v : Value} {d : DataW H} {ps : List MemPlace} {ts : List TypeId} {ds : List (DataW H)} (hsz : (DataW.weightsEach Try.prog ts ds).all (· ≤ reachBytes) = true) {j : Nat} (ht : ts[j]? = some 35) (hd : ds[j]? = some d)
    (hval : Value.okWide Try.prog W .any base 35 v) (h : DataW.Trod enc Try.prog W 0 (fun _ => true) true 35 v d ps) : ∃ l : List TxD, Recs 2 TxR W v l ∧ l.length * Try.prog.bytesOf 23 ≤ reachBytes := by
  obtain ⟨a0, len0, cap0, rfl⟩ := okWide_slice Try.underlying35 hval
  obtain ⟨fuel, hf⟩ := h
  exact rd_recs (n := 2) (R := TxR) Try.underlying35 (by kernel_rfl) (fun fuel cs y hlen hy hw => rd_Tx hlen hy hw) hf (fits_arg hsz ht hd)
end
end Go.Proofs.Ytabbgnlabiakoaa
