/- What is said, or is to pass, among a law's parameters. -/
import Derived.Test.YtgbhbifdfcfamaaFL
namespace Go.Proofs.Ytgbhbifdfcfamaa
set_option maxRecDepth 100000
open Go.RowKit Go.ChangeShapes Go.WideShapes Go.ChangeAt

theorem i64_wfG {n : Int} (h : (Lit.int .i64 n).wf = true) : -9223372036854775808 ≤ n ∧ n ≤ 9223372036854775807 := by
  simp [Lit.wf, IntKind.min, IntKind.max, IntKind.signed, IntKind.bits] at h; omega
/-- What every record of a slice is. -/
theorem recs_okG {α : Type} {n : Nat} {R : World → List Value → α → Prop} {w : World} {v : Value} {l : List α} {p : α → Prop} (h : Recs n R w v l) (hp : ∀ w row d, R w row d → p d) : ∀ d ∈ l, p d := by
  obtain ⟨rows, _, hl, hr⟩ := h
  intro d hd
  obtain ⟨k, hk, rfl⟩ := List.getElem_of_mem hd
  exact hp _ _ _ (hr k _ _ (List.getElem?_eq_getElem (by omega)) (List.getElem?_eq_getElem hk))
structure GacD where
  k : Int
  b : List Nat
instance : Inhabited GacD := ⟨⟨0, []⟩⟩
structure GacD.Ok (d : GacD) : Prop where
  k : -9223372036854775808 ≤ d.k ∧ d.k ≤ 9223372036854775807
  b : (∀ x ∈ d.b, x < 256) ∧ d.b.length ≤ 140737488351232
/-- The cells of a record. -/
def GacR (w : World) (row : List Value) (d : GacD) : Prop := (∃ u1 : Value, row = [.int .i64 d.k, u1] ∧ Byt w u1 d.b) ∧ d.Ok
theorem GacR.stays : Stays GacR := fun _ _ _ _ ⟨⟨u1, h0, h2⟩, ho⟩ he => ⟨⟨u1, h0, h2.ext he⟩, ho⟩
theorem Try.stGac : St Try.prog 35 2 [.int .i64 0, .slice none 0 0] := St.of (by kernel_rfl) (by kernel_rfl) rfl
theorem Try.elGac : ElS Try.prog 28 35 2 := ElS.of Try.underlying28 (by kernel_rfl)
section
variable {H : Type} {enc : TypeId × Value → H} {W : World}
theorem rd_Gac {fuel : Nat} {cs : List Value} {y : DataW H × List MemPlace} (hlen : cs.length = 2) (hy : DataW.trod enc Try.prog W 0 (fun _ => true) true fuel 35 cs = some y) (hw : Fits Try.prog 35 y.1) : ∃ d, GacR W cs d := by
  obtain ⟨xs, m, _, rfl, _, hxl, hf⟩ := DataW.trod_struct Try.underlying35 hy
  match xs, hxl, cs, hlen with
  | [y0, y1], _, [c0, c1], _ =>
    have k0 : DataW.trod enc Try.prog W 0 (fun _ => true) true m 3 [c0] = some y0 := hf 0 _ rfl
    have k1 : DataW.trod enc Try.prog W 0 (fun _ => true) true m 33 [c1] = some y1 := hf 1 _ rfl
    simp only [List.map_cons, List.map_nil] at hw
    obtain ⟨a0, e0, _, b0⟩ := DataW.trod_int Try.underlying3 k0
    injection e0 with e0 _
    subst e0
    obtain ⟨l1, g1, s1, t1⟩ := rd_bytes (d := y1.1) (pl := y1.2) k1 (hw.part Try.underlying35 (j := 1) rfl rfl)
    exact ⟨⟨a0, l1⟩, ⟨c1, rfl, g1⟩, ⟨i64_wfG b0, ⟨s1, t1⟩⟩⟩
theorem arg_Gac {base : Nat} {v : Value} {d : DataW H} {ps : List MemPlace} {ts : List TypeId} {ds : List (DataW H)} (hsz : (DataW.weightsEach Try.prog ts ds).all (· ≤ reachBytes) = true) {j : Nat} (ht : ts[j]? = some 35) (hd : ds[j]? = some d)
    (hval : Value.okWide Try.prog W .any base 35 v) (h : DataW.Trod enc Try.prog W 0 (fun _ => true) true 35 v d ps) : ∃ (row : List Value) (x : GacD), v = .agg row.toArray ∧ row.length = 2 ∧ GacR W row x := by
  have hu := Try.underlying35
  simp only [Value.okWide, hu] at hval
  obtain ⟨cs, rfl, hcs, _⟩ := hval
  have hc : Try.prog.cellsOf 35 = 2 := by kernel_rfl
  rw [hc] at hcs
  obtain ⟨fuel, hf⟩ := h
  obtain ⟨x, hx⟩ := rd_Gac (cs := cs.toList) (by simpa using hcs) hf (fits_arg hsz ht hd)
  exact ⟨cs.toList, x, by simp, by simpa using hcs, hx⟩
theorem arg_Gacs {base : Nat} {v : Value} {d : DataW H} {ps : List MemPlace} {ts : List TypeId} {ds : List (DataW H)} (hsz : (DataW.weightsEach Try.prog ts ds).all (· ≤ reachBytes) = true) {j : Nat} (ht : ts[j]? = some 28) (hd : ds[j]? = some d)
    (hval : Value.okWide Try.prog W .any base 28 v) (h : DataW.Trod enc Try.prog W 0 (fun _ => true) true 28 v d ps) : ∃ l : List GacD, Recs 2 GacR W v l := by
  obtain ⟨a0, len0, cap0, rfl⟩ := okWide_slice Try.underlying28 hval
  obtain ⟨fuel, hf⟩ := h
  obtain ⟨l, hl, _⟩ := rd_recs (n := 2) (R := GacR) Try.underlying28 (by kernel_rfl) (fun fuel cs y hlen hy hw => rd_Gac hlen hy hw) hf (fits_arg hsz ht hd)
  exact ⟨l, hl⟩
theorem arg_GacsL {base : Nat} {v : Value} {d : DataW H} {ps : List MemPlace} {ts : List TypeId} {ds : List (DataW H)} (hsz : (DataW.weightsEach Try.prog ts ds).all (· ≤ reachBytes) = true) {j : Nat} (ht : ts[j]? = some 28) (hd : ds[j]? = some d)
    (hval : Value.okWide Try.prog W .any base 28 v) (h : DataW.Trod enc Try.prog W 0 (fun _ => true) true 28 v d ps) : ∃ l : List GacD, Recs 2 GacR W v l ∧ l.length * Try.prog.bytesOf 35 ≤ reachBytes := by
  obtain ⟨a0, len0, cap0, rfl⟩ := okWide_slice Try.underlying28 hval
  obtain ⟨fuel, hf⟩ := h
  exact rd_recs (n := 2) (R := GacR) Try.underlying28 (by kernel_rfl) (fun fuel cs y hlen hy hw => rd_Gac hlen hy hw) hf (fits_arg hsz ht hd)
end
theorem w_gacidx {P : Program} {ops : Array Oper} {rest : List Oper} {o : Oper} {a : Act} {Q : Exit → Act → World → Prop} {w W0 : World} {t e : TypeId} {v : Value} {l : List GacD} (E : ElS P t e 2) (x y : Operand) (i : Nat) (hgd : o.guard = none) (ho : o.op = .indexAddr t x y) (hv : a.eval x = v) (hy : a.eval y = .int .i64 i)
    (h : Recs 2 GacR W0 v l) (he : Ext W0 w) {d : GacD} (hd : l[i]? = some d) (k : ∀ p u, RowAt w p [.int .i64 d.k, u] → Byt W0 u d.b → d.Ok → wpList P ops Q rest (a.put o.dst (.pointer (some p))) w) : wpList P ops Q (o :: rest) a w := by
  have hi := (List.getElem?_eq_some_iff.1 hd).1
  have e : l[i] = d := (List.getElem?_eq_some_iff.1 hd).2
  refine w_ridx0 E x y i GacR.stays hgd ho hv hy h he hi ?_
  rintro pa row hrow _ hR
  rw [e] at hR
  obtain ⟨⟨u, hr, hb⟩, hok⟩ := hR
  subst hr
  exact k pa u (hrow.ext he) hb hok
end Go.Proofs.Ytgbhbifdfcfamaa
