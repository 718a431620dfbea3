/- What is done with wishes, among a law's parameters. -/
import Derived.Test.YtajkjiegcmpjaaaPk19
namespace Go.Proofs.Ytajkjiegcmpjaaa
set_option maxRecDepth 100000
open Go.RowKit Go.ChangeShapes Go.WideShapes Go.ChangeAt
theorem i64_wfF {n : Int} (h : (Lit.int .i64 n).wf = true) : -9223372036854775808 ≤ n ∧ n ≤ 9223372036854775807 := by
  simp [Lit.wf, IntKind.min, IntKind.max, IntKind.signed, IntKind.bits] at h; omega
structure FacD where
  k : Int
  n : Int
instance : Inhabited FacD := ⟨⟨0, 0⟩⟩
structure FacD.Ok (d : FacD) : Prop where
  k : -9223372036854775808 ≤ d.k ∧ d.k ≤ 9223372036854775807
  n : -9223372036854775808 ≤ d.n ∧ d.n ≤ 9223372036854775807
def FacR (_w : World) (row : List Value) (d : FacD) : Prop := (row = [.int .i64 d.k, .int .i64 d.n]) ∧ d.Ok
theorem FacR.stays : Stays FacR := fun _ _ _ _ h _ => h
theorem Try.stFac : St Try.prog 38 2 [.int .i64 0, .int .i64 0] := St.of (by kernel_rfl) (by kernel_rfl) rfl
theorem Try.elFac : ElS Try.prog 34 38 2 := ElS.of Try.underlying34 (by kernel_rfl)
section
variable {H : Type} {enc : TypeId × Value → H} {W : World}
theorem rd_Fac {fuel : Nat} {cs : List Value} {y : DataW H × List MemPlace} (hlen : cs.length = 2) (hy : DataW.trod enc Try.prog W 0 (fun _ => true) true fuel 38 cs = some y) (hw : Fits Try.prog 38 y.1) : ∃ d, FacR W cs d := by
  obtain ⟨xs, m, _, rfl, _, hxl, hf⟩ := DataW.trod_struct Try.underlying38 hy
  match xs, hxl, cs, hlen with
  | [y0, y1], _, [c0, c1], _ =>
    have k0 : DataW.trod enc Try.prog W 0 (fun _ => true) true m 3 [c0] = some y0 := hf 0 _ rfl
    have k1 : DataW.trod enc Try.prog W 0 (fun _ => true) true m 3 [c1] = some y1 := hf 1 _ rfl
    simp only [List.map_cons, List.map_nil] at hw
    obtain ⟨a0, e0, _, b0⟩ := DataW.trod_int Try.underlying3 k0
    injection e0 with e0 _
    subst e0
    obtain ⟨a1, e1, _, b1⟩ := DataW.trod_int Try.underlying3 k1
    injection e1 with e1 _
    subst e1
    exact ⟨⟨a0, a1⟩, rfl, ⟨i64_wfF b0, i64_wfF b1⟩⟩
theorem arg_Facs {base : Nat} {v : Value} {d : DataW H} {ps : List MemPlace} {ts : List TypeId} {ds : List (DataW H)} (hsz : (DataW.weightsEach Try.prog ts ds).all (· ≤ reachBytes) = true) {j : Nat} (ht : ts[j]? = some 34) (hd : ds[j]? = some d)
    (hval : Value.okWide Try.prog W .any base 34 v) (h : DataW.Trod enc Try.prog W 0 (fun _ => true) true 34 v d ps) : ∃ l : List FacD, Recs 2 FacR W v l := by
  obtain ⟨a0, len0, cap0, rfl⟩ := okWide_slice Try.underlying34 hval
  obtain ⟨fuel, hf⟩ := h
  obtain ⟨l, hl, _⟩ := rd_recs (n := 2) (R := FacR) Try.underlying34 (by kernel_rfl) (fun fuel cs y hlen hy hw => rd_Fac hlen hy hw) hf (fits_arg hsz ht hd)
  exact ⟨l, hl⟩
end
theorem w_facidx {P : Program} {ops : Array Oper} {rest : List Oper} {o : Oper} {a : Act} {Q : Exit → Act → World → Prop} {w W0 : World} {t e : TypeId} {v : Value} {l : List FacD} (E : ElS P t e 2) (x y : Operand) (i : Nat) (hgd : o.guard = none) (ho : o.op = .indexAddr t x y) (hv : a.eval x = v) (hy : a.eval y = .int .i64 i)
    (h : Recs 2 FacR W0 v l) (he : Ext W0 w) {d : FacD} (hd : l[i]? = some d) (k : ∀ p, RowAt w p [.int .i64 d.k, .int .i64 d.n] → d.Ok → wpList P ops Q rest (a.put o.dst (.pointer (some p))) w) : wpList P ops Q (o :: rest) a w := by
  have hi := (List.getElem?_eq_some_iff.1 hd).1
  have e : l[i] = d := (List.getElem?_eq_some_iff.1 hd).2
  refine w_ridx0 E x y i FacR.stays hgd ho hv hy h he hi ?_
  rintro pa row hrow _ hR
  rw [e] at hR
  obtain ⟨hr, hok⟩ := hR
  subst hr
  exact k pa (hrow.ext he) hok
theorem w_iidx {ops : Array Oper} {rest : List Oper} {o : Oper} {a : Act} {Q : Exit → Act → World → Prop} {w : World} {v : Value} {l : List Int} (x y : Operand) (i : Nat) (hgd : o.guard = none) (ho : o.op = .indexAddr 24 x y) (hv : a.eval x = v) (h : Ints w v l) (hy : a.eval y = .int .i64 i) {n : Int} (hd : l[i]? = some n)
    (k : ∀ ad : Addr, w.cell? ad = some (.int .i64 n) → wpList Try.prog ops Q rest (a.put o.dst (.pointer (some ad))) w) : wpList Try.prog ops Q (o :: rest) a w := by
  have hi := (List.getElem?_eq_some_iff.1 hd).1
  have e : l[i] = n := (List.getElem?_eq_some_iff.1 hd).2
  subst e
  exact i_idx x y i hgd ho hv h hy hi k
theorem w_itoF {ops : Array Oper} {rest : List Oper} {o : Oper} {a : Act} {Q : Exit → Act → World → Prop} {w : World} {v : Value} {l : List Int} (x y' : Operand) (j : Nat) (hgd : o.guard = none) (ho : o.op = .slice 24 x none (some y') none) (hv : a.eval x = v) (h : Ints w v l) (hy' : a.eval y' = .int .i64 j) (hj : j ≤ l.length)
    (k : ∀ v', Ints w v' (l.take j) → wpList Try.prog ops Q rest (a.put o.dst v') w) : wpList Try.prog ops Q (o :: rest) a w :=
  w_to Try.elI x y' j hgd ho hv h hy' (by rw [i64s_length]; exact hj) fun v' hv' => k v' (by
    have e : (i64s l).take j = i64s (l.take j) := by simp [i64s, List.map_take]
    rw [e] at hv'; exact hv')
end Go.Proofs.Ytajkjiegcmpjaaa
