/- What a parameter of type []byte reads as. -/
import Derived.Test.YtabbgnlabiakoaaStep
import Derived.Test.YtabbgnlabiakoaaLift
namespace Go.Proofs.Ytabbgnlabiakoaa
open Go.RowKit Go.ChangeShapes Go.WideShapes Go.ChangeAt

section
variable {H : Type} {enc : TypeId × Value → H} {W : World} {base : Nat} {v : Value} {d : DataW H} {ps : List MemPlace}
theorem arg_bytes {ts : List TypeId} {ds : List (DataW H)} (hsz : (DataW.weightsEach Try.prog ts ds).all (· ≤ reachBytes) = true) {j : Nat} (ht : ts[j]? = some 28) (hd : ds[j]? = some d)
    (hval : Value.okWide Try.prog W .any base 28 v) (h : DataW.Trod enc Try.prog W 0 (fun _ => true) true 28 v d ps) : ∃ l : List Nat, Byt W v l ∧ (∀ x ∈ l, x < 256) ∧ l.length ≤ 140737488351232 := by
  obtain ⟨a0, len, cap, rfl⟩ := okWide_slice Try.underlying28 hval
  obtain ⟨fuel, hf⟩ := h
  rcases open_ints Try.underlying28 Try.underlying5 (by kernel_rfl) hf with ⟨h1, _⟩ | ⟨a, len', cap', zs, h1, _, hlc, hcm, hzl, hx, hc, hw⟩
  · simp only [Value.cells] at h1
    injection h1 with h1; injection h1 with e1 e2 e3
    subst e1 e2 e3
    exact ⟨[], Byt.nil W, by simp, by simp⟩
  · simp only [Value.cells] at h1
    injection h1 with h1; injection h1 with e1 e2 e3
    subst e1 e2 e3
    simp only [if_true] at hzl
    have hwn : ∀ n ∈ zs, 0 ≤ n ∧ n < 256 := fun n hn => by
      have := hw n hn
      simp [Lit.wf, IntKind.min, IntKind.max, IntKind.signed, IntKind.bits] at this
      omega
    have hd2 : d = .slice (lits .u8 (zs.take len)) (lits .u8 (zs.drop len)) := by
      have := congrArg Prod.fst hx; simpa using this
    have hz2 := sized_slice hsz ht (by rw [hd, hd2]) Try.underlying28
    have hb5 : Try.prog.bytesOf 5 = 1 := by kernel_rfl
    have hreach : reachBytes = 140737488351232 := rfl
    rw [hb5, hreach] at hz2
    simp only [lits, List.length_map, List.length_take, List.length_drop, Nat.mul_one] at hz2
    refine ⟨(zs.take len).map Int.toNat, ?_, ?_, by simp; omega⟩
    · have hul : u8s ((zs.take len).map Int.toNat) = (zs.take len).map (Value.int .u8) := by
        unfold u8s; rw [List.map_map]
        refine List.map_congr_left fun n hn => ?_
        have := hwn n (List.mem_of_mem_take hn)
        simp only [Function.comp]
        rw [Int.toNat_of_nonneg this.1]
      unfold Byt; rw [hul]
      refine ⟨some a, cap, by simp; omega, by simp; omega, hcm, fun k u hk => ⟨a, rfl, ?_⟩⟩
      rw [List.getElem?_map, List.getElem?_take] at hk
      split at hk
      · rw [hc k (by omega)]
        have hkz : k < zs.length := by omega
        rw [List.getElem?_eq_getElem hkz] at hk
        simp at hk
        subst hk
        simp [List.getD, List.getElem?_eq_getElem hkz]
      · simp at hk
    · intro x hx'
      obtain ⟨n, hn, rfl⟩ := List.mem_map.1 hx'
      have := hwn n (List.mem_of_mem_take hn)
      omega
end
end Go.Proofs.Ytabbgnlabiakoaa
