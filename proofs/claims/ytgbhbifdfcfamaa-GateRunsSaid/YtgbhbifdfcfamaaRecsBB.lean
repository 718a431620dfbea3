/- [][]byte among a law's parameters. -/
import Derived.Test.YtgbhbifdfcfamaaFL
namespace Go.Proofs.Ytgbhbifdfcfamaa
set_option maxRecDepth 100000
open Go.RowKit Go.ChangeShapes Go.WideShapes Go.ChangeAt
theorem Try.elBBS : ElS Try.prog 29 33 1 := ElS.of Try.underlying29 (by kernel_rfl)
theorem arg_bb {H : Type} {enc : TypeId × Value → H} {W : World} {base : Nat} {v : Value} {d : DataW H} {ps : List MemPlace} {ts : List TypeId} {ds : List (DataW H)} (hsz : (DataW.weightsEach Try.prog ts ds).all (· ≤ reachBytes) = true) {j : Nat} (ht : ts[j]? = some 29) (hd : ds[j]? = some d)
    (hval : Value.okWide Try.prog W .any base 29 v) (h : DataW.Trod enc Try.prog W 0 (fun _ => true) true 29 v d ps) : ∃ l : List (List Nat), Recs 1 BytOk W v l := by
  obtain ⟨a0, len0, cap0, rfl⟩ := okWide_slice Try.underlying29 hval
  obtain ⟨fuel, hf⟩ := h
  obtain ⟨l, hl, _⟩ := rd_recs (n := 1) (R := BytOk) Try.underlying29 (by kernel_rfl) (fun fuel cs y hlen hy hw => by
    match cs, hlen with
    | [u], _ =>
      obtain ⟨l, h1, h2, h3⟩ := rd_bytes hy hw
      exact ⟨l, ⟨u, rfl, h1⟩, h2, h3⟩) hf (fits_arg hsz ht hd)
  exact ⟨l, hl⟩
end Go.Proofs.Ytgbhbifdfcfamaa
