/- A record of the journal, among a law's parameters. -/
import Derived.Test.YtfhecifgpjbeiaaRecsArg
import Derived.Test.YtfhecifgpjbeiaaJrnM
import Derived.Test.YtfhecifgpjbeiaaRowRec
namespace Go.Proofs.Ytfhecifgpjbeiaa
open Go.RowKit Go.ChangeShapes Go.WideShapes Go.ChangeAt

theorem i64_wf {n : Int} (h : (Lit.int .i64 n).wf = true) : -9223372036854775808 ≤ n ∧ n ≤ 9223372036854775807 := by
  simp [Lit.wf, IntKind.min, IntKind.max, IntKind.signed, IntKind.bits] at h; omega
/-- What every record of a slice is. -/
theorem recs_ok_of {α : Type} {n : Nat} {R : World → List Value → α → Prop} {w : World} {v : Value} {l : List α} {p : α → Prop} (h : Recs n R w v l) (hp : ∀ w row d, R w row d → p d) : ∀ d ∈ l, p d := by
  obtain ⟨rows, _, hl, hr⟩ := h
  intro d hd
  obtain ⟨k, hk, rfl⟩ := List.getElem_of_mem hd
  exact hp _ _ _ (hr k _ _ (List.getElem?_eq_getElem (by omega)) (List.getElem?_eq_getElem hk))
instance : Inhabited RecD := ⟨⟨0, 0, 0, 0, []⟩⟩
structure RecD.Raw (d : RecD) : Prop where
  k : -9223372036854775808 ≤ d.k ∧ d.k ≤ 9223372036854775807
  i : -9223372036854775808 ≤ d.i ∧ d.i ≤ 9223372036854775807
  v : -9223372036854775808 ≤ d.v ∧ d.v ≤ 9223372036854775807
  x : -9223372036854775808 ≤ d.x ∧ d.x ≤ 9223372036854775807
  t : (∀ x ∈ d.t, x < 256) ∧ d.t.length ≤ 140737488351232
/-- The cells of a record. -/
def RecR (w : World) (row : List Value) (d : RecD) : Prop := (∃ u4 : Value, row = [.int .i64 d.k, .int .i64 d.i, .int .i64 d.v, .int .i64 d.x, u4] ∧ Byt w u4 d.t) ∧ d.Raw
theorem RecR.stays : Stays RecR := fun _ _ _ _ ⟨⟨u4, h0, h5⟩, ho⟩ he => ⟨⟨u4, h0, h5.ext he⟩, ho⟩
theorem Try.stRec : St Try.prog 28 5 [.int .i64 0, .int .i64 0, .int .i64 0, .int .i64 0, .slice none 0 0] := St.of (by kernel_rfl) (by kernel_rfl) rfl
theorem Try.elRec : ElS Try.prog 22 28 5 := ElS.of Try.underlying22 (by kernel_rfl)
section
variable {H : Type} {enc : TypeId × Value → H} {W : World}
theorem rd_Rec {fuel : Nat} {cs : List Value} {y : DataW H × List MemPlace} (hlen : cs.length = 5) (hy : DataW.trod enc Try.prog W 0 (fun _ => true) true fuel 28 cs = some y) (hw : Fits Try.prog 28 y.1) : ∃ d, RecR W cs d := by
  obtain ⟨xs, m, _, rfl, _, hxl, hf⟩ := DataW.trod_struct Try.underlying28 hy
  match xs, hxl, cs, hlen with
  | [y0, y1, y2, y3, y4], _, [c0, c1, c2, c3, c4], _ =>
    have k0 : DataW.trod enc Try.prog W 0 (fun _ => true) true m 3 [c0] = some y0 := hf 0 _ rfl
    have k1 : DataW.trod enc Try.prog W 0 (fun _ => true) true m 3 [c1] = some y1 := hf 1 _ rfl
    have k2 : DataW.trod enc Try.prog W 0 (fun _ => true) true m 3 [c2] = some y2 := hf 2 _ rfl
    have k3 : DataW.trod enc Try.prog W 0 (fun _ => true) true m 3 [c3] = some y3 := hf 3 _ rfl
    have k4 : DataW.trod enc Try.prog W 0 (fun _ => true) true m 26 [c4] = some y4 := hf 4 _ rfl
    simp only [List.map_cons, List.map_nil] at hw
    obtain ⟨a0, e0, _, b0⟩ := DataW.trod_int Try.underlying3 k0
    injection e0 with e0 _
    subst e0
    obtain ⟨a1, e1, _, b1⟩ := DataW.trod_int Try.underlying3 k1
    injection e1 with e1 _
    subst e1
    obtain ⟨a2, e2, _, b2⟩ := DataW.trod_int Try.underlying3 k2
    injection e2 with e2 _
    subst e2
    obtain ⟨a3, e3, _, b3⟩ := DataW.trod_int Try.underlying3 k3
    injection e3 with e3 _
    subst e3
    obtain ⟨l4, g4, s4, t4⟩ := rd_bytes (d := y4.1) (pl := y4.2) k4 (hw.part Try.underlying28 (j := 4) rfl rfl)
    exact ⟨⟨a0, a1, a2, a3, l4⟩, ⟨c4, rfl, g4⟩, ⟨i64_wf b0, i64_wf b1, i64_wf b2, i64_wf b3, ⟨s4, t4⟩⟩⟩
theorem arg_Rec {base : Nat} {v : Value} {d : DataW H} {ps : List MemPlace} {ts : List TypeId} {ds : List (DataW H)} (hsz : (DataW.weightsEach Try.prog ts ds).all (· ≤ reachBytes) = true) {j : Nat} (ht : ts[j]? = some 28) (hd : ds[j]? = some d)
    (hval : Value.okWide Try.prog W .any base 28 v) (h : DataW.Trod enc Try.prog W 0 (fun _ => true) true 28 v d ps) : ∃ (row : List Value) (x : RecD), v = .agg row.toArray ∧ row.length = 5 ∧ RecR W row x := by
  have hu := Try.underlying28
  simp only [Value.okWide, hu] at hval
  obtain ⟨cs, rfl, hcs, _⟩ := hval
  have hc : Try.prog.cellsOf 28 = 5 := by kernel_rfl
  rw [hc] at hcs
  obtain ⟨fuel, hf⟩ := h
  obtain ⟨x, hx⟩ := rd_Rec (cs := cs.toList) (by simpa using hcs) hf (fits_arg hsz ht hd)
  exact ⟨cs.toList, x, by simp, by simpa using hcs, hx⟩
theorem arg_Recs {base : Nat} {v : Value} {d : DataW H} {ps : List MemPlace} {ts : List TypeId} {ds : List (DataW H)} (hsz : (DataW.weightsEach Try.prog ts ds).all (· ≤ reachBytes) = true) {j : Nat} (ht : ts[j]? = some 22) (hd : ds[j]? = some d)
    (hval : Value.okWide Try.prog W .any base 22 v) (h : DataW.Trod enc Try.prog W 0 (fun _ => true) true 22 v d ps) : ∃ l : List RecD, Recs 5 RecR W v l := by
  obtain ⟨a0, len0, cap0, rfl⟩ := okWide_slice Try.underlying22 hval
  obtain ⟨fuel, hf⟩ := h
  obtain ⟨l, hl, _⟩ := rd_recs (n := 5) (R := RecR) Try.underlying22 (by kernel_rfl) (fun fuel cs y hlen hy hw => rd_Rec hlen hy hw) hf (fits_arg hsz ht hd)
  exact ⟨l, hl⟩
end
end Go.Proofs.Ytfhecifgpjbeiaa
