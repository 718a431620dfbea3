/- What is done with a disk, among a law's parameters. -/
import Derived.Test.YtkcmhbinphgimaaRecsArg
import Derived.Deep.Strs
namespace Go.Proofs.Ytkcmhbinphgimaa
open Go.RowKit Go.ChangeShapes Go.WideShapes Go.ChangeAt

structure ActD where
  k : Int
  n : Int
  data : List Nat
instance : Inhabited ActD := ⟨⟨0, 0, []⟩⟩
structure ActD.Ok (d : ActD) : Prop where
  b : ∀ x ∈ d.data, x < 256
  l : d.data.length ≤ 140737488351232
  n : -9223372036854775808 ≤ d.n ∧ d.n ≤ 9223372036854775807
def ActR (w : World) (row : List Value) (d : ActD) : Prop := (∃ u, row = [.int .i64 d.k, .int .i64 d.n, u] ∧ Byt w u d.data) ∧ d.Ok
theorem ActR.stays : Stays ActR := fun _ _ _ _ ⟨⟨u, h1, h2⟩, h3⟩ he => ⟨⟨u, h1, h2.ext he⟩, h3⟩
theorem Try.elA : ElS Try.prog 29 34 3 := ElS.of Try.underlying29 (by kernel_rfl)
theorem Try.stA : St Try.prog 34 3 [.int .i64 0, .int .i64 0, .slice none 0 0] := St.of (by kernel_rfl) (by kernel_rfl) rfl
theorem i64_of {n : Int} (h : (Lit.int .i64 n).wf = true) : -9223372036854775808 ≤ n ∧ n ≤ 9223372036854775807 := by
  simp [Lit.wf, IntKind.min, IntKind.max, IntKind.signed, IntKind.bits] at h; omega
theorem arg_acts {H : Type} {enc : TypeId × Value → H} {W : World} {base : Nat} {v : Value} {d : DataW H} {ps : List MemPlace} {ts : List TypeId} {ds : List (DataW H)} (hsz : (DataW.weightsEach Try.prog ts ds).all (· ≤ reachBytes) = true) {j : Nat} (ht : ts[j]? = some 29) (hd : ds[j]? = some d)
    (hval : Value.okWide Try.prog W .any base 29 v) (h : DataW.Trod enc Try.prog W 0 (fun _ => true) true 29 v d ps) : ∃ l : List ActD, Recs 3 ActR W v l := by
  obtain ⟨a0, len0, cap0, rfl⟩ := okWide_slice Try.underlying29 hval
  obtain ⟨fuel, hf⟩ := h
  obtain ⟨l, hl, _⟩ := rd_recs (n := 3) (R := ActR) Try.underlying29 (by kernel_rfl) (fun fuel cs y hlen hy hw => by
    obtain ⟨y0, y1, y2, m, rfl, _, h0, h1, h2⟩ := Deep.trod_struct3 Try.underlying34 hy
    match cs, hlen with
    | [u0, u1, u2], _ =>
      obtain ⟨a, e0, _, _⟩ := DataW.trod_int Try.underlying3 h0
      obtain ⟨b, e1, _, wb⟩ := DataW.trod_int Try.underlying3 h1
      have hc : Try.prog.cellsOf 3 = 1 := by kernel_rfl
      have e0' : u0 = .int .i64 a := by simpa [hc] using e0
      have e1' : u1 = .int .i64 b := by simpa [hc] using e1
      subst e0' e1'
      obtain ⟨l, g1, g2, g3⟩ := rd_bytes (v := u2) h2 (hw.part Try.underlying34 (j := 2) rfl rfl)
      exact ⟨⟨a, b, l⟩, ⟨u2, rfl, g1⟩, g2, g3, i64_of wb⟩) hf (fits_arg hsz ht hd)
  exact ⟨l, hl⟩
end Go.Proofs.Ytkcmhbinphgimaa
