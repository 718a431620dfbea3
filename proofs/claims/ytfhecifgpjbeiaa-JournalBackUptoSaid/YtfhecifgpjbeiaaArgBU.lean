/- What a parameter of type []byte reads as, with its bulk. -/
import Derived.Test.YtfhecifgpjbeiaaArgB
namespace Go.Proofs.Ytfhecifgpjbeiaa
open Go.RowKit Go.ChangeShapes Go.WideShapes Go.ChangeAt

theorem bulkB_one {H : Type} (d : DataW H) : 1 ≤ Rows.uptoBulk d := by
  cases d with
  | lit l => cases l <;> simp [Rows.uptoBulk]
  | _ => simp [Rows.uptoBulk]
theorem bulkB_len {H : Type} : ∀ l : List (DataW H), l.length ≤ Rows.uptoBulkAll l
  | [] => by simp
  | d :: l => by
    have h1 := bulkB_one d
    have h2 := bulkB_len l
    simp only [Rows.uptoBulkAll, List.length_cons]; omega
section
variable {H : Type} {enc : TypeId × Value → H} {W : World} {base : Nat} {v : Value} {d : DataW H} {ps : List MemPlace}
theorem arg_bytesU {ts : List TypeId} {ds : List (DataW H)} (hsz : (DataW.weightsEach Try.prog ts ds).all (· ≤ reachBytes) = true) {j : Nat} (ht : ts[j]? = some 26) (hd : ds[j]? = some d)
    (hval : Value.okWide Try.prog W .any base 26 v) (h : DataW.Trod enc Try.prog W 0 (fun _ => true) true 26 v d ps) : ∃ l : List Nat, Byt W v l ∧ (∀ x ∈ l, x < 256) ∧ l.length ≤ 140737488351232 ∧ l.length ≤ Rows.uptoBulk d := by
  obtain ⟨l, h1, h2, h3⟩ := arg_bytes hsz ht hd hval h
  refine ⟨l, h1, h2, h3, ?_⟩
  obtain ⟨a0, len, cap, rfl⟩ := okWide_slice Try.underlying26 hval
  obtain ⟨A, c, e, _⟩ := h1
  injection e with _ e2 _
  rw [u8s_length] at e2
  obtain ⟨fuel, hf⟩ := h
  rcases open_ints Try.underlying26 Try.underlying5 (by kernel_rfl) hf with ⟨h1, _⟩ | ⟨a, len', cap', zs, h1, _, hlc, hcm, hzl, hx, hc, hw⟩
  · simp only [Value.cells] at h1
    injection h1 with h1; injection h1 with e1 e3 e4
    omega
  · simp only [Value.cells] at h1
    injection h1 with h1; injection h1 with e1 e3 e4
    simp only [if_true] at hzl
    have hd2 : d = .slice (lits .u8 (zs.take len')) (lits .u8 (zs.drop len')) := by
      have := congrArg Prod.fst hx; simpa using this
    have h4 := bulkB_len (lits (H := H) .u8 (zs.take len'))
    have h5 : (lits (H := H) .u8 (zs.take len')).length = len' := by simp [lits]; omega
    rw [hd2]
    simp only [Rows.uptoBulk]
    omega
end
end Go.Proofs.Ytfhecifgpjbeiaa
