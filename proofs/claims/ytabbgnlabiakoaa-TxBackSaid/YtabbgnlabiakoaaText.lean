/- The contracts of wire.Text and wire.ReadText. -/
import Derived.Test.YtabbgnlabiakoaaRegStep
import Derived.Test.YtabbgnlabiakoaaRegP
import Derived.Test.YtabbgnlabiakoaaClone
namespace Go.Proofs.Ytabbgnlabiakoaa
open Go.RowKit

theorem cloneR {v : Value} {l : List Nat} {w : World} (h : Byt w v l) (hl : l.length ≤ 140737488355328) :
    Calls Try.prog 34 #[v] w fun e w' => ∃ v', e = .returned v' ∧ Ext w w' ∧ Sp.p (.sl (u8s l)) v' w' :=
  (Clone_any v l w h hl).mono fun _ _ ⟨v', he, ho, hx⟩ => ⟨v', he, hx, ho.byt⟩

theorem cloneO {v : Value} {l : List Nat} {w : World} {lo : Nat} (hlo : lo ≤ w.heap.size) (h : Byt w v l) (hl : l.length ≤ 140737488355328) :
    Calls Try.prog 34 #[v] w fun e w' => ∃ v', e = .returned v' ∧ Ext w w' ∧ Sp.p (.nb lo l) v' w' :=
  (Clone_any v l w h hl).mono fun _ _ ⟨v', he, ho, hx⟩ => ⟨v', he, hx, (ho.nb).mono hlo⟩

/-- A text as bytes, and the error. -/
def txL (l : List Nat) : List Nat := if 4096 < l.length then [] else numL l.length ++ l
def txErr (l : List Nat) : Nat := if 4096 < l.length then 11 else 0

theorem W64_of {n : Nat} (h : n ≤ 9223372036854775807) : W64 n := by unfold W64; omega

def RtOk (l : List Nat) : Prop := (rd l).2 ≠ 0 ∧ (rd l).1 ≤ 4096 ∧ (rd l).2 + (rd l).1 ≤ l.length
instance (l : List Nat) : Decidable (RtOk l) := by unfold RtOk; exact inferInstance
/-- The text with which bytes begin, what is behind it, the error. -/
def rtL (l : List Nat) : List Nat := if RtOk l then (l.take ((rd l).2 + (rd l).1)).drop (rd l).2 else []
def rtRest (l : List Nat) : List Nat := if RtOk l then l.drop ((rd l).2 + (rd l).1) else []
def rtErr (l : List Nat) : Nat := if RtOk l then 0 else 11

end Go.Proofs.Ytabbgnlabiakoaa
