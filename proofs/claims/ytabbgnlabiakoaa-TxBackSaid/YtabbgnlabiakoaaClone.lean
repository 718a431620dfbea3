/- The contract of bytes.Clone. -/
import Derived.Test.YtabbgnlabiakoaaStep
import Derived.Test.YtabbgnlabiakoaaFind
namespace Go.Proofs.Ytabbgnlabiakoaa
open Go.RowKit

set_option maxRecDepth 100000 in
set_option maxHeartbeats 400000 in
theorem Clone_any (v : Value) (l : List Nat) (w : World) (h : Byt w v l) (hl : l.length ≤ 140737488355328) :
    Calls Try.prog 34 #[v] w fun e w' => ∃ v', e = .returned v' ∧ OwnB w.heap.size w' v' l ∧ Ext w w' := by
  refine calls_keep ?_
  go_enter Try.func34, Try.ntmps34
  go_wp2_with (first
    | (refine b_isnil (.tmp 3) 0 0 rfl rfl (v := v) rfl h ?_; intro b hb; cases b)
    | (at_builtin; refine appb (.tmp 5) (.tmp 6) rfl rfl rfl rfl own_empty (h.ext ((Ext.refl _).alloc _)) (by simpa using hl) (by simp) ?_; intro v1 w1 ho1 hb1 hg1))
  · go_ret
    exact Keep.intro ⟨_, rfl, ho1, ((Ext.refl w).alloc _).below (Nat.le_refl _) |>.trans (hb1.mono (Nat.le_refl _))⟩
  · obtain rfl := hb trivial
    go_ret
    exact Keep.intro ⟨_, rfl, OwnB.nil _ _, Ext.refl _⟩

/-- The rest behind the number, and the error. -/
def rdRest (l : List Nat) : List Nat := if (rd l).2 = 0 then [] else l.drop (rd l).2
def rdErr (l : List Nat) : Nat := if (rd l).2 = 0 then 11 else 0
end Go.Proofs.Ytabbgnlabiakoaa
