/- A list of numbers, once more. -/
import Derived.Test.YtgbhbifdfcfamaaFD
namespace Go.Proofs.Ytgbhbifdfcfamaa
set_option maxRecDepth 100000
open Go.RowKit

theorem runs_extract {P : Program} {o : Oper} {ρ : Operand → Value} {w : World} {x : Operand} {i : Nat} {vs : Array Value} {u : Value} (ho : o.op = .extract x i) (hx : ρ x = .tuple vs) (hi : vs[i]? = some u) : Runs P o ρ w u := by
  unfold Runs execOp
  simp [ho, hx, Instr.extract, hi]
set_option maxRecDepth 100000 in
set_option maxHeartbeats 1600000 in
theorem IClone_any {w : World} {v : Value} {l : List Int} (h0 : Ints w v l) (hlen : l.length * 8 ≤ 140737488355328) :
    Calls Try.prog 20 #[v] w fun e w' => ∃ v', e = .returned v' ∧ OwnI w.heap.size w' v' l ∧ Ext w w' := by
  refine calls_keep ?_
  have hr := hide_ h0
  have hbig := hide_ (show (([] : List Int).length + l.length) * 8 ≤ 140737488355328 from by simp; omega)
  clear h0 hlen
  go_enter Try.func20, Try.ntmps20
  go_wp2_with ((first
    | ((with_reducible refine at_bin ?_); refine w_isnil Try.elI _ _ _ rfl rfl rfl hr.out ?_; intro b hb; cases b)
    | ((with_reducible refine at_lit ?_); refine w_new Try.elI (i64s []) rfl rfl rfl (i64s_cells _) rfl (by omega) ?_; intro v5 w5 hX o5; replace o5 : OwnI _ w5 v5 [] := o5)
    | ((with_reducible refine at_bi ?_); refine appi _ _ rfl rfl rfl rfl o5 (hr.out.ext hX) hbig.out hX.size ?_; intro v9 w9 o9 hb9 hg9 hg9'; rw [List.nil_append] at o9; replace hX := hX.trans' hb9; clear hb9 hg9 hg9' o5)
    | fail) <;> (try simp only [Act.put, List.setIfInBounds_toArray, List.set_cons_zero, List.set_cons_succ]))
  · go_ret
    exact Keep.intro ⟨v9, rfl, o9, hX⟩
  · obtain rfl : l = [] := List.map_eq_nil_iff.1 (hb trivial).1
    go_ret
    exact Keep.intro ⟨_, rfl, OwnI.nil _ _, Ext.refl _⟩
end Go.Proofs.Ytgbhbifdfcfamaa
