/- What is done with a bag, among a law's parameters. -/
import Derived.Test.YtkkbpmkeemfppaaFL
namespace Go.Proofs.Ytkkbpmkeemfppaa
open Go.RowKit Go.ChangeShapes Go.WideShapes Go.ChangeAt

theorem i64_wfN {n : Int} (h : (Lit.int .i64 n).wf = true) : -9223372036854775808 ≤ n ∧ n ≤ 9223372036854775807 := by
  simp [Lit.wf, IntKind.min, IntKind.max, IntKind.signed, IntKind.bits] at h; omega
/-- What every record of a slice is. -/
theorem recs_okN {α : Type} {n : Nat} {R : World → List Value → α → Prop} {w : World} {v : Value} {l : List α} {p : α → Prop} (h : Recs n R w v l) (hp : ∀ w row d, R w row d → p d) : ∀ d ∈ l, p d := by
  obtain ⟨rows, _, hl, hr⟩ := h
  intro d hd
  obtain ⟨k, hk, rfl⟩ := List.getElem_of_mem hd
  exact hp _ _ _ (hr k _ _ (List.getElem?_eq_getElem (by omega)) (List.getElem?_eq_getElem hk))
structure NacD where
  k : Int
  n : Int
instance : Inhabited NacD := ⟨⟨0, 0⟩⟩
structure NacD.Ok (d : NacD) : Prop where
  k : -9223372036854775808 ≤ d.k ∧ d.k ≤ 9223372036854775807
  n : -9223372036854775808 ≤ d.n ∧ d.n ≤ 9223372036854775807
/-- The cells of a record. -/
def NacR (_w : World) (row : List Value) (d : NacD) : Prop := (row = [.int .i64 d.k, .int .i64 d.n]) ∧ d.Ok
theorem NacR.stays : Stays NacR := fun _ _ _ _ h _ => h
theorem Try.stNac : St Try.prog 35 2 [.int .i64 0, .int .i64 0] := St.of (by kernel_rfl) (by kernel_rfl) rfl
theorem Try.elNac : ElS Try.prog 30 35 2 := ElS.of Try.underlying30 (by kernel_rfl)
section
variable {H : Type} {enc : TypeId × Value → H} {W : World}
theorem rd_Nac {fuel : Nat} {cs : List Value} {y : DataW H × List MemPlace} (hlen : cs.length = 2) (hy : DataW.trod enc Try.prog W 0 (fun _ => true) true fuel 35 cs = some y) (hw : Fits Try.prog 35 y.1) : ∃ d, NacR W cs d := by
  obtain ⟨xs, m, _, rfl, _, hxl, hf⟩ := DataW.trod_struct Try.underlying35 hy
  match xs, hxl, cs, hlen with
  | [y0, y1], _, [c0, c1], _ =>
    have k0 : DataW.trod enc Try.prog W 0 (fun _ => true) true m 3 [c0] = some y0 := hf 0 _ rfl
    have k1 : DataW.trod enc Try.prog W 0 (fun _ => true) true m 3 [c1] = some y1 := hf 1 _ rfl
    simp only [List.map_cons, List.map_nil] at hw
    obtain ⟨a0, e0, _, b0⟩ := DataW.trod_int Try.underlying3 k0
    injection e0 with e0 _
    subst e0
    obtain ⟨a1, e1, _, b1⟩ := DataW.trod_int Try.underlying3 k1
    injection e1 with e1 _
    subst e1
    exact ⟨⟨a0, a1⟩, rfl, ⟨i64_wfN b0, i64_wfN b1⟩⟩
theorem arg_Nac {base : Nat} {v : Value} {d : DataW H} {ps : List MemPlace} {ts : List TypeId} {ds : List (DataW H)} (hsz : (DataW.weightsEach Try.prog ts ds).all (· ≤ reachBytes) = true) {j : Nat} (ht : ts[j]? = some 35) (hd : ds[j]? = some d)
    (hval : Value.okWide Try.prog W .any base 35 v) (h : DataW.Trod enc Try.prog W 0 (fun _ => true) true 35 v d ps) : ∃ (row : List Value) (x : NacD), v = .agg row.toArray ∧ row.length = 2 ∧ NacR W row x := by
  have hu := Try.underlying35
  simp only [Value.okWide, hu] at hval
  obtain ⟨cs, rfl, hcs, _⟩ := hval
  have hc : Try.prog.cellsOf 35 = 2 := by kernel_rfl
  rw [hc] at hcs
  obtain ⟨fuel, hf⟩ := h
  obtain ⟨x, hx⟩ := rd_Nac (cs := cs.toList) (by simpa using hcs) hf (fits_arg hsz ht hd)
  exact ⟨cs.toList, x, by simp, by simpa using hcs, hx⟩
theorem arg_Nacs {base : Nat} {v : Value} {d : DataW H} {ps : List MemPlace} {ts : List TypeId} {ds : List (DataW H)} (hsz : (DataW.weightsEach Try.prog ts ds).all (· ≤ reachBytes) = true) {j : Nat} (ht : ts[j]? = some 30) (hd : ds[j]? = some d)
    (hval : Value.okWide Try.prog W .any base 30 v) (h : DataW.Trod enc Try.prog W 0 (fun _ => true) true 30 v d ps) : ∃ l : List NacD, Recs 2 NacR W v l := by
  obtain ⟨a0, len0, cap0, rfl⟩ := okWide_slice Try.underlying30 hval
  obtain ⟨fuel, hf⟩ := h
  obtain ⟨l, hl, _⟩ := rd_recs (n := 2) (R := NacR) Try.underlying30 (by kernel_rfl) (fun fuel cs y hlen hy hw => rd_Nac hlen hy hw) hf (fits_arg hsz ht hd)
  exact ⟨l, hl⟩
theorem arg_NacsL {base : Nat} {v : Value} {d : DataW H} {ps : List MemPlace} {ts : List TypeId} {ds : List (DataW H)} (hsz : (DataW.weightsEach Try.prog ts ds).all (· ≤ reachBytes) = true) {j : Nat} (ht : ts[j]? = some 30) (hd : ds[j]? = some d)
    (hval : Value.okWide Try.prog W .any base 30 v) (h : DataW.Trod enc Try.prog W 0 (fun _ => true) true 30 v d ps) : ∃ l : List NacD, Recs 2 NacR W v l ∧ l.length * Try.prog.bytesOf 35 ≤ reachBytes := by
  obtain ⟨a0, len0, cap0, rfl⟩ := okWide_slice Try.underlying30 hval
  obtain ⟨fuel, hf⟩ := h
  exact rd_recs (n := 2) (R := NacR) Try.underlying30 (by kernel_rfl) (fun fuel cs y hlen hy hw => rd_Nac hlen hy hw) hf (fits_arg hsz ht hd)
end
theorem w_nacidx {P : Program} {ops : Array Oper} {rest : List Oper} {o : Oper} {a : Act} {Q : Exit → Act → World → Prop} {w W0 : World} {t e : TypeId} {v : Value} {l : List NacD} (E : ElS P t e 2) (x y : Operand) (i : Nat) (hgd : o.guard = none) (ho : o.op = .indexAddr t x y) (hv : a.eval x = v) (hy : a.eval y = .int .i64 i)
    (h : Recs 2 NacR W0 v l) (he : Ext W0 w) {d : NacD} (hd : l[i]? = some d) (k : ∀ p, RowAt w p [.int .i64 d.k, .int .i64 d.n] → wpList P ops Q rest (a.put o.dst (.pointer (some p))) w) : wpList P ops Q (o :: rest) a w := by
  have hi := (List.getElem?_eq_some_iff.1 hd).1
  have e : l[i] = d := (List.getElem?_eq_some_iff.1 hd).2
  refine w_ridx0 E x y i NacR.stays hgd ho hv hy h he hi ?_
  rintro pa row hrow _ hR
  rw [e] at hR
  obtain ⟨hr, _⟩ := hR
  subst hr
  exact k pa (hrow.ext he)
end Go.Proofs.Ytkkbpmkeemfppaa
