/- What a parameter of type []int reads as. -/
import Derived.Test.YtgbhbifdfcfamaaFD
import Derived.Test.YtgbhbifdfcfamaaFL
namespace Go.Proofs.Ytgbhbifdfcfamaa
set_option maxRecDepth 100000
open Go.RowKit Go.ChangeShapes Go.WideShapes Go.ChangeAt
theorem arg_ints {H : Type} {enc : TypeId × Value → H} {W : World} {base : Nat} {v : Value} {d : DataW H} {ps : List MemPlace} {ts : List TypeId} {ds : List (DataW H)} (hsz : (DataW.weightsEach Try.prog ts ds).all (· ≤ reachBytes) = true) {j : Nat} (ht : ts[j]? = some 24) (hd : ds[j]? = some d)
    (hval : Value.okWide Try.prog W .any base 24 v) (h : DataW.Trod enc Try.prog W 0 (fun _ => true) true 24 v d ps) : ∃ l : List Int, Ints W v l ∧ (∀ x ∈ l, -9223372036854775808 ≤ x ∧ x ≤ 9223372036854775807) ∧ l.length * 8 ≤ 140737488351232 := by
  obtain ⟨a0, len, cap, rfl⟩ := okWide_slice Try.underlying24 hval
  obtain ⟨fuel, hf⟩ := h
  rcases open_ints Try.underlying24 Try.underlying3 (by kernel_rfl) hf with ⟨h1, _⟩ | ⟨a, len', cap', zs, h1, _, hlc, hcm, hzl, hx, hc, hw⟩
  · simp only [Value.cells] at h1
    injection h1 with h1; injection h1 with e1 e2 e3
    subst e1 e2 e3
    exact ⟨[], Ints.nil W, by simp, by simp⟩
  · simp only [Value.cells] at h1
    injection h1 with h1; injection h1 with e1 e2 e3
    subst e1 e2 e3
    simp only [if_true] at hzl
    have hwn : ∀ n ∈ zs, -9223372036854775808 ≤ n ∧ n ≤ 9223372036854775807 := fun n hn => by
      have := hw n hn
      simp [Lit.wf, IntKind.min, IntKind.max, IntKind.signed, IntKind.bits] at this
      omega
    have hd2 : d = .slice (lits .i64 (zs.take len)) (lits .i64 (zs.drop len)) := by
      have := congrArg Prod.fst hx; simpa using this
    have hz2 := sized_slice hsz ht (by rw [hd, hd2]) Try.underlying24
    have hb5 : Try.prog.bytesOf 3 = 8 := by kernel_rfl
    have hreach : reachBytes = 140737488351232 := rfl
    rw [hb5, hreach] at hz2
    simp only [lits, List.length_map, List.length_take, List.length_drop] at hz2
    refine ⟨zs.take len, ?_, fun x hx' => hwn x (List.mem_of_mem_take hx'), by simp; omega⟩
    refine ⟨some a, cap, by simp [i64s]; omega, by simp [i64s]; omega, hcm, fun k u hk => ⟨a, rfl, ?_⟩⟩
    rw [i64s, List.getElem?_map, List.getElem?_take] at hk
    split at hk
    · rw [hc k (by omega)]
      have hkz : k < zs.length := by omega
      rw [List.getElem?_eq_getElem hkz] at hk
      simp at hk
      subst hk
      simp [List.getD, List.getElem?_eq_getElem hkz]
    · simp at hk
end Go.Proofs.Ytgbhbifdfcfamaa
