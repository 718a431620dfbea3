/- What is done with a journal, among a law's parameters. -/
import Derived.Test.YtfhecifgpjbeiaaJRec
import Derived.Test.YtfhecifgpjbeiaaArr
namespace Go.Proofs.Ytfhecifgpjbeiaa
open Go.RowKit Go.ChangeShapes Go.WideShapes Go.ChangeAt

structure ActJ where
  k : Int
  n : Int
  r : RecD
  data : List Nat
instance : Inhabited ActJ := ⟨⟨0, 0, ⟨0, 0, 0, 0, []⟩, []⟩⟩
structure ActJ.Ok (d : ActJ) : Prop where
  r : d.r.Raw
  b : ∀ x ∈ d.data, x < 256
  l : d.data.length ≤ 140737488351232
def ActR (w : World) (row : List Value) (d : ActJ) : Prop := (∃ u u2, row = [.int .i64 d.k, .int .i64 d.n, .int .i64 d.r.k, .int .i64 d.r.i, .int .i64 d.r.v, .int .i64 d.r.x, u, u2] ∧ Byt w u d.r.t ∧ Byt w u2 d.data) ∧ d.Ok
theorem ActR.stays : Stays ActR := fun _ _ _ _ ⟨⟨u, u2, h1, h2, h3⟩, h4⟩ he => ⟨⟨u, u2, h1, h2.ext he, h3.ext he⟩, h4⟩
theorem Try.elA : ElS Try.prog 36 43 8 := ElS.of Try.underlying36 (by kernel_rfl)
theorem Try.stA : StN Try.prog 43 8 [.int .i64 0, .int .i64 0, .int .i64 0, .int .i64 0, .int .i64 0, .int .i64 0, .slice none 0 0, .slice none 0 0] := StN.of (by kernel_rfl) (by kernel_rfl) rfl
section
variable {H : Type} {enc : TypeId × Value → H} {W : World}
theorem rd_Act {fuel : Nat} {cs : List Value} {y : DataW H × List MemPlace} (hlen : cs.length = 8) (hy : DataW.trod enc Try.prog W 0 (fun _ => true) true fuel 43 cs = some y) (hw : Fits Try.prog 43 y.1) : ∃ d, ActR W cs d := by
  obtain ⟨xs, m, _, rfl, _, hxl, hf⟩ := DataW.trod_struct Try.underlying43 hy
  match xs, hxl, cs, hlen with
  | [y0, y1, y2, y3], _, [c0, c1, c2, c3, c4, c5, c6, c7], _ =>
    have k0 : DataW.trod enc Try.prog W 0 (fun _ => true) true m 3 [c0] = some y0 := hf 0 _ rfl
    have k1 : DataW.trod enc Try.prog W 0 (fun _ => true) true m 3 [c1] = some y1 := hf 1 _ rfl
    have k2 : DataW.trod enc Try.prog W 0 (fun _ => true) true m 28 [c2, c3, c4, c5, c6] = some y2 := hf 2 _ rfl
    have k3 : DataW.trod enc Try.prog W 0 (fun _ => true) true m 26 [c7] = some y3 := hf 3 _ rfl
    simp only [List.map_cons, List.map_nil] at hw
    obtain ⟨a0, e0, _, b0⟩ := DataW.trod_int Try.underlying3 k0
    injection e0 with e0 _
    subst e0
    obtain ⟨a1, e1, _, b1⟩ := DataW.trod_int Try.underlying3 k1
    injection e1 with e1 _
    subst e1
    obtain ⟨r, ⟨u, e2, g2⟩, hr⟩ := rd_Rec (y := y2) rfl k2 (hw.part Try.underlying43 (j := 2) rfl rfl)
    obtain ⟨l3, g3, s3, t3⟩ := rd_bytes (d := y3.1) (pl := y3.2) k3 (hw.part Try.underlying43 (j := 3) rfl rfl)
    injection e2 with e2 e3
    injection e3 with e3 e4
    injection e4 with e4 e5
    injection e5 with e5 e6
    injection e6 with e6 e7
    subst e2 e3 e4 e5 e6
    exact ⟨⟨a0, a1, r, l3⟩, ⟨c6, c7, rfl, g2, g3⟩, hr, s3, t3⟩
theorem arg_acts {base : Nat} {v : Value} {d : DataW H} {ps : List MemPlace} {ts : List TypeId} {ds : List (DataW H)} (hsz : (DataW.weightsEach Try.prog ts ds).all (· ≤ reachBytes) = true) {j : Nat} (ht : ts[j]? = some 36) (hd : ds[j]? = some d)
    (hval : Value.okWide Try.prog W .any base 36 v) (h : DataW.Trod enc Try.prog W 0 (fun _ => true) true 36 v d ps) : ∃ l : List ActJ, Recs 8 ActR W v l := by
  obtain ⟨a0, len0, cap0, rfl⟩ := okWide_slice Try.underlying36 hval
  obtain ⟨fuel, hf⟩ := h
  obtain ⟨l, hl, _⟩ := rd_recs (n := 8) (R := ActR) Try.underlying36 (by kernel_rfl) (fun fuel cs y hlen hy hw => rd_Act hlen hy hw) hf (fits_arg hsz ht hd)
  exact ⟨l, hl⟩
end
end Go.Proofs.Ytfhecifgpjbeiaa
