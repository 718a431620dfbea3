/- So many steps back; what two ways have in common. -/
import Derived.Test.YtdacclcaopmalaaTrV
namespace Go.Proofs.Ytdacclcaopmalaa
set_option maxRecDepth 100000
open Go.RowKit

/-- So many steps down a way. -/
def backN (L : List Int) (steps : Int) : Int := ((L.take (L.length - steps.toNat)).getLast?).getD 0
theorem lcp_take : ∀ {p q : List Int} {k : Nat}, p.take k = q.take k → (p.length ≤ k ∨ q.length ≤ k ∨ ∃ a b, p[k]? = some a ∧ q[k]? = some b ∧ a ≠ b) → k ≤ p.length → k ≤ q.length → TrS.lcp p q = p.take k
  | [], q, k, _, _, hk, _ => by simp [TrS.lcp]
  | x :: p, [], k, _, _, _, hk => by
    obtain rfl : k = 0 := by simpa using hk
    simp [TrS.lcp]
  | x :: p, y :: q, 0, _, h, _, _ => by
    rcases h with h | h | ⟨a, b, h1, h2, h3⟩
    · simp at h
    · simp at h
    · simp at h1 h2; subst h1 h2
      simp [TrS.lcp, h3]
  | x :: p, y :: q, k + 1, he, h, h1, h2 => by
    simp only [List.take_succ_cons, List.cons.injEq] at he
    obtain ⟨rfl, he⟩ := he
    rw [TrS.lcp, if_pos rfl, List.take_succ_cons, lcp_take he ?_ (by simpa using h1) (by simpa using h2)]
    rcases h with h | h | ⟨a, b, h1, h2, h3⟩
    · exact .inl (by simpa using h)
    · exact .inr (.inl (by simpa using h))
    · exact .inr (.inr ⟨a, b, by simpa using h1, by simpa using h2, h3⟩)

end Go.Proofs.Ytdacclcaopmalaa
