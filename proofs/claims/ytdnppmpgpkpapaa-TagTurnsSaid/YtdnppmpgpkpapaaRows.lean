/-
  No cell of these rows narrows 'for every input' (looked for: loops, veiled, ifaces, maps, wideKeys, modest, calm, conditions, laid).
  DERIVED. THE GIVEN ROWS OF THIS SEAT. 6 by the template 'for every input the law returns true; each argument reads behind the call as it read before'; 0 by the template 'total and deterministic' (their statements: YtdnppmpgpkpapaaTotals.lean).
  GIVEN WITH THE SEED: the statements are not yours to turn. If you find one false, say at which input.
  Laid BY PROGRAM, IN A SANDBOX (cutbox-rows.mjs): the forced cells as the released guide's own fill.sh prints them over the translation 3c47a4c7ab853975… (all of the seat's roots in one cut). By AI agents, Wed Nov 11 2026. No macro, syntax, notation, axiom, sorry.
-/
import Derived.Test.YtdnppmpgpkpapaaChecked
import GoSem.Claim
import GoSem.ClaimJoined
import GoSem.ClaimMapViews
import Derived.JoinedTies
import Derived.KernelRfl
namespace Go.Proofs.Ytdnppmpgpkpapaa
/- THE CELL 'sum', in the pinned program and in every row, IS THE sha256 OF THE DUMP (.gsa) THAT YtdnppmpgpkpapaaProg.lean LOADS. Nothing in Lean hashes anything: it is a label: what it is worth is what the hold of that sum in a sandbox is worth. -/
noncomputable def Try.pinned : Pinned := { name := "ytdnppmpgpkpapaa", sum := "3c47a4c7ab8539755032a8cf18cd743088da9d4b3b8fce0c128608e8e7a6b484", checked := Try.checked }
namespace Rows
def none {H : Type} : Left H := { results := [], args := [] }

/-- 'neaptidelaw02.TagNames': WHATEVER THE INPUT: true; the input reads as it did. -/
def tagNamesSpec : ChangeSpec := { name := "tagNames", fn := fun _ => fun
  | [] => { results := [.lit (.bool true)], args := [] }
  | _ => none }
def tagNamesRow : OpenClaim := { program := "ytdnppmpgpkpapaa", sum := "3c47a4c7ab8539755032a8cf18cd743088da9d4b3b8fce0c128608e8e7a6b484", func := "neaptide/neaptidelaw02.TagNames", spec := "tagNames", apart := false }
def TagNamesSaid : Prop := tagNamesRow.holds Try.pinned (OpenSpec.ofChange tagNamesSpec)

/-- ITS FALSE NEIGHBOUR: 'it returns false'. Refute it at one input. -/
def tagNamesWrong : ChangeSpec := { name := "tagNames", fn := fun _ => fun
  | [] => { results := [.lit (.bool false)], args := [] }
  | _ => none }
def TagNamesWrongFalsely : Prop := tagNamesRow.holds Try.pinned (OpenSpec.ofChange tagNamesWrong)

/-- 'neaptidelaw02.TagKeys': WHATEVER THE INPUT: true; the input reads as it did. -/
def tagKeysSpec : ChangeSpec := { name := "tagKeys", fn := fun _ => fun
  | [d] => { results := [.lit (.bool true)], args := [d] }
  | _ => none }
def tagKeysRow : OpenClaim := { program := "ytdnppmpgpkpapaa", sum := "3c47a4c7ab8539755032a8cf18cd743088da9d4b3b8fce0c128608e8e7a6b484", func := "neaptide/neaptidelaw02.TagKeys", spec := "tagKeys", apart := false }
def TagKeysSaid : Prop := tagKeysRow.holds Try.pinned (OpenSpec.ofChange tagKeysSpec)

/-- ITS FALSE NEIGHBOUR: 'it returns false'. Refute it at one input. -/
def tagKeysWrong : ChangeSpec := { name := "tagKeys", fn := fun _ => fun
  | [d] => { results := [.lit (.bool false)], args := [d] }
  | _ => none }
def TagKeysWrongFalsely : Prop := tagKeysRow.holds Try.pinned (OpenSpec.ofChange tagKeysWrong)

/-- 'neaptidelaw02.TagMarks': WHATEVER THE INPUT: true; the input reads as it did. -/
def tagMarksSpec : ChangeSpec := { name := "tagMarks", fn := fun _ => fun
  | [d1, d2, d3] => { results := [.lit (.bool true)], args := [d1, d2, d3] }
  | _ => none }
def tagMarksRow : OpenClaim := { program := "ytdnppmpgpkpapaa", sum := "3c47a4c7ab8539755032a8cf18cd743088da9d4b3b8fce0c128608e8e7a6b484", func := "neaptide/neaptidelaw02.TagMarks", spec := "tagMarks", apart := false }
def TagMarksSaid : Prop := tagMarksRow.holds Try.pinned (OpenSpec.ofChange tagMarksSpec)

/-- ITS FALSE NEIGHBOUR: 'it returns false'. Refute it at one input. -/
def tagMarksWrong : ChangeSpec := { name := "tagMarks", fn := fun _ => fun
  | [d1, d2, d3] => { results := [.lit (.bool false)], args := [d1, d2, d3] }
  | _ => none }
def TagMarksWrongFalsely : Prop := tagMarksRow.holds Try.pinned (OpenSpec.ofChange tagMarksWrong)

/-- 'neaptidelaw02.TagParts': WHATEVER THE INPUT: true; the input reads as it did. -/
def tagPartsSpec : ChangeSpec := { name := "tagParts", fn := fun _ => fun
  | [d1, d2] => { results := [.lit (.bool true)], args := [d1, d2] }
  | _ => none }
def tagPartsRow : OpenClaim := { program := "ytdnppmpgpkpapaa", sum := "3c47a4c7ab8539755032a8cf18cd743088da9d4b3b8fce0c128608e8e7a6b484", func := "neaptide/neaptidelaw02.TagParts", spec := "tagParts", apart := false }
def TagPartsSaid : Prop := tagPartsRow.holds Try.pinned (OpenSpec.ofChange tagPartsSpec)

/-- ITS FALSE NEIGHBOUR: 'it returns false'. Refute it at one input. -/
def tagPartsWrong : ChangeSpec := { name := "tagParts", fn := fun _ => fun
  | [d1, d2] => { results := [.lit (.bool false)], args := [d1, d2] }
  | _ => none }
def TagPartsWrongFalsely : Prop := tagPartsRow.holds Try.pinned (OpenSpec.ofChange tagPartsWrong)

/-- 'neaptidelaw02.TagTurns': WHATEVER THE INPUT: true; the input reads as it did. -/
def tagTurnsSpec : ChangeSpec := { name := "tagTurns", fn := fun _ => fun
  | [d1, d2, d3] => { results := [.lit (.bool true)], args := [d1, d2, d3] }
  | _ => none }
def tagTurnsRow : OpenClaim := { program := "ytdnppmpgpkpapaa", sum := "3c47a4c7ab8539755032a8cf18cd743088da9d4b3b8fce0c128608e8e7a6b484", func := "neaptide/neaptidelaw02.TagTurns", spec := "tagTurns", apart := false }
def TagTurnsSaid : Prop := tagTurnsRow.holds Try.pinned (OpenSpec.ofChange tagTurnsSpec)

/-- ITS FALSE NEIGHBOUR: 'it returns false'. Refute it at one input. -/
def tagTurnsWrong : ChangeSpec := { name := "tagTurns", fn := fun _ => fun
  | [d1, d2, d3] => { results := [.lit (.bool false)], args := [d1, d2, d3] }
  | _ => none }
def TagTurnsWrongFalsely : Prop := tagTurnsRow.holds Try.pinned (OpenSpec.ofChange tagTurnsWrong)

/-- 'neaptidelaw02.TagSteps': WHATEVER THE INPUT: true; the input reads as it did. -/
def tagStepsSpec : ChangeSpec := { name := "tagSteps", fn := fun _ => fun
  | [d1, d2, d3] => { results := [.lit (.bool true)], args := [d1, d2, d3] }
  | _ => none }
def tagStepsRow : OpenClaim := { program := "ytdnppmpgpkpapaa", sum := "3c47a4c7ab8539755032a8cf18cd743088da9d4b3b8fce0c128608e8e7a6b484", func := "neaptide/neaptidelaw02.TagSteps", spec := "tagSteps", apart := false }
def TagStepsSaid : Prop := tagStepsRow.holds Try.pinned (OpenSpec.ofChange tagStepsSpec)

/-- ITS FALSE NEIGHBOUR: 'it returns false'. Refute it at one input. -/
def tagStepsWrong : ChangeSpec := { name := "tagSteps", fn := fun _ => fun
  | [d1, d2, d3] => { results := [.lit (.bool false)], args := [d1, d2, d3] }
  | _ => none }
def TagStepsWrongFalsely : Prop := tagStepsRow.holds Try.pinned (OpenSpec.ofChange tagStepsWrong)

/- THE SECOND FORM. 'bulk': how many values and letters a reading holds, each counted each time it is reached (what is shared counts as often as it is met; a slice's spare places count too). A statement '..UptoSaid' is the law's where the arguments, and the package variables that the reading takes, are together of bulk at most 1048576: NARROWER than '..Said'. Prove '..Said' where nothing that the law and all that it calls make is longer than what came in: it says more and counts as full. Else prove '..UptoSaid'. A law counts once. -/
mutual
def uptoBulk {H : Type} : DataW H → Nat
  | .lit (.string bytes) => bytes.length + 1
  | .lit _ => 1
  | .nil => 1
  | .ptr d => uptoBulk d + 1
  | .slice elems spare => uptoBulkAll elems + uptoBulkAll spare + 1
  | .agg parts => uptoBulkAll parts + 1
  | .iface _ d => uptoBulk d + 1
  | .map entries => uptoBulkEntries entries + 1
  | .held _ => 1
def uptoBulkAll {H : Type} : List (DataW H) → Nat
  | [] => 0
  | d :: r => uptoBulk d + uptoBulkAll r
def uptoBulkEntries {H : Type} : List (Lit × DataW H) → Nat
  | [] => 0
  | x :: r => uptoBulkEntry x + uptoBulkEntries r
def uptoBulkEntry {H : Type} : Lit × DataW H → Nat
  | (.string bytes, d) => bytes.length + uptoBulk d + 1
  | (_, d) => uptoBulk d + 1
 end
def uptoSmall : (H : Type) → List (DataW H) → Bool := fun _ ds => decide (uptoBulkAll ds ≤ 1048576)
def OpenSpec.upto (s : _root_.Go.ChangeSpec) : _root_.Go.OpenSpec := { _root_.Go.OpenSpec.ofChange s with cond := some uptoSmall }

/-- 'neaptidelaw02.TagNames', WHERE WHAT IT READS IS OF BULK AT MOST 1048576: true; the input reads as it did. -/
def tagNamesUptoRow : OpenClaim := { program := "ytdnppmpgpkpapaa", sum := "3c47a4c7ab8539755032a8cf18cd743088da9d4b3b8fce0c128608e8e7a6b484", func := "neaptide/neaptidelaw02.TagNames", spec := "tagNames", apart := false, narrowed := true }
def TagNamesUptoSaid : Prop := tagNamesUptoRow.holds Try.pinned (OpenSpec.upto tagNamesSpec)

/-- 'neaptidelaw02.TagKeys', WHERE WHAT IT READS IS OF BULK AT MOST 1048576: true; the input reads as it did. -/
def tagKeysUptoRow : OpenClaim := { program := "ytdnppmpgpkpapaa", sum := "3c47a4c7ab8539755032a8cf18cd743088da9d4b3b8fce0c128608e8e7a6b484", func := "neaptide/neaptidelaw02.TagKeys", spec := "tagKeys", apart := false, narrowed := true }
def TagKeysUptoSaid : Prop := tagKeysUptoRow.holds Try.pinned (OpenSpec.upto tagKeysSpec)

/-- 'neaptidelaw02.TagMarks', WHERE WHAT IT READS IS OF BULK AT MOST 1048576: true; the input reads as it did. -/
def tagMarksUptoRow : OpenClaim := { program := "ytdnppmpgpkpapaa", sum := "3c47a4c7ab8539755032a8cf18cd743088da9d4b3b8fce0c128608e8e7a6b484", func := "neaptide/neaptidelaw02.TagMarks", spec := "tagMarks", apart := false, narrowed := true }
def TagMarksUptoSaid : Prop := tagMarksUptoRow.holds Try.pinned (OpenSpec.upto tagMarksSpec)

/-- 'neaptidelaw02.TagParts', WHERE WHAT IT READS IS OF BULK AT MOST 1048576: true; the input reads as it did. -/
def tagPartsUptoRow : OpenClaim := { program := "ytdnppmpgpkpapaa", sum := "3c47a4c7ab8539755032a8cf18cd743088da9d4b3b8fce0c128608e8e7a6b484", func := "neaptide/neaptidelaw02.TagParts", spec := "tagParts", apart := false, narrowed := true }
def TagPartsUptoSaid : Prop := tagPartsUptoRow.holds Try.pinned (OpenSpec.upto tagPartsSpec)

/-- 'neaptidelaw02.TagTurns', WHERE WHAT IT READS IS OF BULK AT MOST 1048576: true; the input reads as it did. -/
def tagTurnsUptoRow : OpenClaim := { program := "ytdnppmpgpkpapaa", sum := "3c47a4c7ab8539755032a8cf18cd743088da9d4b3b8fce0c128608e8e7a6b484", func := "neaptide/neaptidelaw02.TagTurns", spec := "tagTurns", apart := false, narrowed := true }
def TagTurnsUptoSaid : Prop := tagTurnsUptoRow.holds Try.pinned (OpenSpec.upto tagTurnsSpec)

/-- 'neaptidelaw02.TagSteps', WHERE WHAT IT READS IS OF BULK AT MOST 1048576: true; the input reads as it did. -/
def tagStepsUptoRow : OpenClaim := { program := "ytdnppmpgpkpapaa", sum := "3c47a4c7ab8539755032a8cf18cd743088da9d4b3b8fce0c128608e8e7a6b484", func := "neaptide/neaptidelaw02.TagSteps", spec := "tagSteps", apart := false, narrowed := true }
def TagStepsUptoSaid : Prop := tagStepsUptoRow.holds Try.pinned (OpenSpec.upto tagStepsSpec)

end Rows
end Go.Proofs.Ytdnppmpgpkpapaa
