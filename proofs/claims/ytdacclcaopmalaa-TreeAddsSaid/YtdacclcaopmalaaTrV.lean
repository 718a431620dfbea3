/- The way to a block. -/
import Derived.Test.YtdacclcaopmalaaTrP
namespace Go.Proofs.Ytdacclcaopmalaa
set_option maxRecDepth 100000
open Go.RowKit

theorem pathF_len (K : List BlkD) : ∀ (f : Nat) (n : Int), (TrS.pathF f K n).length ≤ f
  | 0, n => by simp [TrS.pathF]
  | f + 1, n => by
    unfold TrS.pathF
    cases TrS.get K n with
    | none => simp
    | some b => have := pathF_len K f b.parent; simp; omega
theorem path_len (K : List BlkD) (n : Int) : (TrS.path K n).length ≤ 4096 := pathF_len K _ n
/-- m[n], by what it says of K. -/
theorem TrC.look6 {X : Nat → Prop} {w : World} {p g : Nat} {v : Value} {K V : List BlkD} (h : TrC X w p g v K V) (n : Int) :
    ∃ cs : List Value, cs.length = 6 ∧ (∀ u ∈ cs, u.oneCell' = true) ∧ Look w g n (.agg cs.toArray) (TrS.has K n) ∧ ∀ d, TrS.get K n = some d → cs[3]? = some (.int .i64 d.parent) ∧ I64 d.parent := by
  obtain ⟨cs, h1, h2, h3, h4⟩ := h.look n
  refine ⟨cs, h1, h2, h3, fun d hd => ?_⟩
  rcases h4 with ⟨hg, _⟩ | ⟨d', u, hg, ht, rfl⟩
  · rw [hg] at hd; cases hd
  · rw [hg] at hd; injection hd with hd; subst hd
    exact ⟨rfl, ht.2.1.par⟩

end Go.Proofs.Ytdacclcaopmalaa
