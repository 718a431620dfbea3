/-
  No cell of these rows narrows 'for every input' (looked for: loops, veiled, ifaces, maps, wideKeys, modest, calm, conditions, laid).
  DERIVED. THE GIVEN ROWS OF THIS SEAT. 6 by the template 'for every input the law returns true; each argument reads behind the call as it read before'; 0 by the template 'total and deterministic' (their statements: YtdoeoncmhaihbaaTotals.lean).
  GIVEN WITH THE SEED: the statements are not yours to turn. If you find one false, say at which input.
  Laid BY PROGRAM, IN A SANDBOX (cutbox-rows.mjs): the forced cells as the released guide's own fill.sh prints them over the translation e8aeb8835f1f1613… (all of the seat's roots in one cut). By AI agents, Wed Nov 11 2026. No macro, syntax, notation, axiom, sorry.
-/
import Derived.Test.YtdoeoncmhaihbaaChecked
import GoSem.Claim
import GoSem.ClaimJoined
import GoSem.ClaimMapViews
import Derived.JoinedTies
import Derived.KernelRfl
namespace Go.Proofs.Ytdoeoncmhaihbaa
/- THE CELL 'sum', in the pinned program and in every row, IS THE sha256 OF THE DUMP (.gsa) THAT YtdoeoncmhaihbaaProg.lean LOADS. Nothing in Lean hashes anything: it is a label: what it is worth is what the hold of that sum in a sandbox is worth. -/
noncomputable def Try.pinned : Pinned := { name := "ytdoeoncmhaihbaa", sum := "e8aeb8835f1f161305929ede6b11aad612b85599aa385b6e3fe525cfa283a0f8", checked := Try.checked }
namespace Rows
def none {H : Type} : Left H := { results := [], args := [] }

/-- 'neaptidelaw17.LedgerNames': WHATEVER THE INPUT: true; the input reads as it did. -/
def ledgerNamesSpec : ChangeSpec := { name := "ledgerNames", fn := fun _ => fun
  | [] => { results := [.lit (.bool true)], args := [] }
  | _ => none }
def ledgerNamesRow : OpenClaim := { program := "ytdoeoncmhaihbaa", sum := "e8aeb8835f1f161305929ede6b11aad612b85599aa385b6e3fe525cfa283a0f8", func := "neaptide/neaptidelaw17.LedgerNames", spec := "ledgerNames", unfollowed := true, recurses := true, apart := false }
def LedgerNamesSaid : Prop := ledgerNamesRow.holds Try.pinned (OpenSpec.ofChange ledgerNamesSpec)

/-- ITS FALSE NEIGHBOUR: 'it returns false'. Refute it at one input. -/
def ledgerNamesWrong : ChangeSpec := { name := "ledgerNames", fn := fun _ => fun
  | [] => { results := [.lit (.bool false)], args := [] }
  | _ => none }
def LedgerNamesWrongFalsely : Prop := ledgerNamesRow.holds Try.pinned (OpenSpec.ofChange ledgerNamesWrong)

/-- 'neaptidelaw17.LedgerCleans': WHATEVER THE INPUT: true; the input reads as it did. -/
def ledgerCleansSpec : ChangeSpec := { name := "ledgerCleans", fn := fun _ => fun
  | [d] => { results := [.lit (.bool true)], args := [d] }
  | _ => none }
def ledgerCleansRow : OpenClaim := { program := "ytdoeoncmhaihbaa", sum := "e8aeb8835f1f161305929ede6b11aad612b85599aa385b6e3fe525cfa283a0f8", func := "neaptide/neaptidelaw17.LedgerCleans", spec := "ledgerCleans", unfollowed := true, recurses := true, apart := false }
def LedgerCleansSaid : Prop := ledgerCleansRow.holds Try.pinned (OpenSpec.ofChange ledgerCleansSpec)

/-- ITS FALSE NEIGHBOUR: 'it returns false'. Refute it at one input. -/
def ledgerCleansWrong : ChangeSpec := { name := "ledgerCleans", fn := fun _ => fun
  | [d] => { results := [.lit (.bool false)], args := [d] }
  | _ => none }
def LedgerCleansWrongFalsely : Prop := ledgerCleansRow.holds Try.pinned (OpenSpec.ofChange ledgerCleansWrong)

/-- 'neaptidelaw17.LedgerTells': WHATEVER THE INPUT: true; the input reads as it did. -/
def ledgerTellsSpec : ChangeSpec := { name := "ledgerTells", fn := fun _ => fun
  | [d1, d2, d3] => { results := [.lit (.bool true)], args := [d1, d2, d3] }
  | _ => none }
def ledgerTellsRow : OpenClaim := { program := "ytdoeoncmhaihbaa", sum := "e8aeb8835f1f161305929ede6b11aad612b85599aa385b6e3fe525cfa283a0f8", func := "neaptide/neaptidelaw17.LedgerTells", spec := "ledgerTells", unfollowed := true, recurses := true, apart := false }
def LedgerTellsSaid : Prop := ledgerTellsRow.holds Try.pinned (OpenSpec.ofChange ledgerTellsSpec)

/-- ITS FALSE NEIGHBOUR: 'it returns false'. Refute it at one input. -/
def ledgerTellsWrong : ChangeSpec := { name := "ledgerTells", fn := fun _ => fun
  | [d1, d2, d3] => { results := [.lit (.bool false)], args := [d1, d2, d3] }
  | _ => none }
def LedgerTellsWrongFalsely : Prop := ledgerTellsRow.holds Try.pinned (OpenSpec.ofChange ledgerTellsWrong)

/-- 'neaptidelaw17.LedgerGrows': WHATEVER THE INPUT: true; the input reads as it did. -/
def ledgerGrowsSpec : ChangeSpec := { name := "ledgerGrows", fn := fun _ => fun
  | [d1, d2, d3] => { results := [.lit (.bool true)], args := [d1, d2, d3] }
  | _ => none }
def ledgerGrowsRow : OpenClaim := { program := "ytdoeoncmhaihbaa", sum := "e8aeb8835f1f161305929ede6b11aad612b85599aa385b6e3fe525cfa283a0f8", func := "neaptide/neaptidelaw17.LedgerGrows", spec := "ledgerGrows", unfollowed := true, recurses := true, apart := false }
def LedgerGrowsSaid : Prop := ledgerGrowsRow.holds Try.pinned (OpenSpec.ofChange ledgerGrowsSpec)

/-- ITS FALSE NEIGHBOUR: 'it returns false'. Refute it at one input. -/
def ledgerGrowsWrong : ChangeSpec := { name := "ledgerGrows", fn := fun _ => fun
  | [d1, d2, d3] => { results := [.lit (.bool false)], args := [d1, d2, d3] }
  | _ => none }
def LedgerGrowsWrongFalsely : Prop := ledgerGrowsRow.holds Try.pinned (OpenSpec.ofChange ledgerGrowsWrong)

/-- 'neaptidelaw17.LedgerOnce': WHATEVER THE INPUT: true; the input reads as it did. -/
def ledgerOnceSpec : ChangeSpec := { name := "ledgerOnce", fn := fun _ => fun
  | [d1, d2] => { results := [.lit (.bool true)], args := [d1, d2] }
  | _ => none }
def ledgerOnceRow : OpenClaim := { program := "ytdoeoncmhaihbaa", sum := "e8aeb8835f1f161305929ede6b11aad612b85599aa385b6e3fe525cfa283a0f8", func := "neaptide/neaptidelaw17.LedgerOnce", spec := "ledgerOnce", unfollowed := true, recurses := true, apart := false }
def LedgerOnceSaid : Prop := ledgerOnceRow.holds Try.pinned (OpenSpec.ofChange ledgerOnceSpec)

/-- ITS FALSE NEIGHBOUR: 'it returns false'. Refute it at one input. -/
def ledgerOnceWrong : ChangeSpec := { name := "ledgerOnce", fn := fun _ => fun
  | [d1, d2] => { results := [.lit (.bool false)], args := [d1, d2] }
  | _ => none }
def LedgerOnceWrongFalsely : Prop := ledgerOnceRow.holds Try.pinned (OpenSpec.ofChange ledgerOnceWrong)

/-- 'neaptidelaw17.LedgerChain': WHATEVER THE INPUT: true; the input reads as it did. -/
def ledgerChainSpec : ChangeSpec := { name := "ledgerChain", fn := fun _ => fun
  | [d1, d2, d3] => { results := [.lit (.bool true)], args := [d1, d2, d3] }
  | _ => none }
def ledgerChainRow : OpenClaim := { program := "ytdoeoncmhaihbaa", sum := "e8aeb8835f1f161305929ede6b11aad612b85599aa385b6e3fe525cfa283a0f8", func := "neaptide/neaptidelaw17.LedgerChain", spec := "ledgerChain", unfollowed := true, recurses := true, apart := false }
def LedgerChainSaid : Prop := ledgerChainRow.holds Try.pinned (OpenSpec.ofChange ledgerChainSpec)

/-- ITS FALSE NEIGHBOUR: 'it returns false'. Refute it at one input. -/
def ledgerChainWrong : ChangeSpec := { name := "ledgerChain", fn := fun _ => fun
  | [d1, d2, d3] => { results := [.lit (.bool false)], args := [d1, d2, d3] }
  | _ => none }
def LedgerChainWrongFalsely : Prop := ledgerChainRow.holds Try.pinned (OpenSpec.ofChange ledgerChainWrong)

/- THE SECOND FORM. 'bulk': how many values and letters a reading holds, each counted each time it is reached (what is shared counts as often as it is met; a slice's spare places count too). A statement '..UptoSaid' is the law's where the arguments, and the package variables that the reading takes, are together of bulk at most 1048576: NARROWER than '..Said'. Prove '..Said' where nothing that the law and all that it calls make is longer than what came in: it says more and counts as full. Else prove '..UptoSaid'. A law counts once. -/
mutual
def uptoBulk {H : Type} : DataW H → Nat
  | .lit (.string bytes) => bytes.length + 1
  | .lit _ => 1
  | .nil => 1
  | .ptr d => uptoBulk d + 1
  | .slice elems spare => uptoBulkAll elems + uptoBulkAll spare + 1
  | .agg parts => uptoBulkAll parts + 1
  | .iface _ d => uptoBulk d + 1
  | .map entries => uptoBulkEntries entries + 1
  | .held _ => 1
def uptoBulkAll {H : Type} : List (DataW H) → Nat
  | [] => 0
  | d :: r => uptoBulk d + uptoBulkAll r
def uptoBulkEntries {H : Type} : List (Lit × DataW H) → Nat
  | [] => 0
  | x :: r => uptoBulkEntry x + uptoBulkEntries r
def uptoBulkEntry {H : Type} : Lit × DataW H → Nat
  | (.string bytes, d) => bytes.length + uptoBulk d + 1
  | (_, d) => uptoBulk d + 1
 end
def uptoSmall : (H : Type) → List (DataW H) → Bool := fun _ ds => decide (uptoBulkAll ds ≤ 1048576)
def OpenSpec.upto (s : _root_.Go.ChangeSpec) : _root_.Go.OpenSpec := { _root_.Go.OpenSpec.ofChange s with cond := some uptoSmall }

/-- 'neaptidelaw17.LedgerNames', WHERE WHAT IT READS IS OF BULK AT MOST 1048576: true; the input reads as it did. -/
def ledgerNamesUptoRow : OpenClaim := { program := "ytdoeoncmhaihbaa", sum := "e8aeb8835f1f161305929ede6b11aad612b85599aa385b6e3fe525cfa283a0f8", func := "neaptide/neaptidelaw17.LedgerNames", spec := "ledgerNames", unfollowed := true, recurses := true, apart := false, narrowed := true }
def LedgerNamesUptoSaid : Prop := ledgerNamesUptoRow.holds Try.pinned (OpenSpec.upto ledgerNamesSpec)

/-- 'neaptidelaw17.LedgerCleans', WHERE WHAT IT READS IS OF BULK AT MOST 1048576: true; the input reads as it did. -/
def ledgerCleansUptoRow : OpenClaim := { program := "ytdoeoncmhaihbaa", sum := "e8aeb8835f1f161305929ede6b11aad612b85599aa385b6e3fe525cfa283a0f8", func := "neaptide/neaptidelaw17.LedgerCleans", spec := "ledgerCleans", unfollowed := true, recurses := true, apart := false, narrowed := true }
def LedgerCleansUptoSaid : Prop := ledgerCleansUptoRow.holds Try.pinned (OpenSpec.upto ledgerCleansSpec)

/-- 'neaptidelaw17.LedgerTells', WHERE WHAT IT READS IS OF BULK AT MOST 1048576: true; the input reads as it did. -/
def ledgerTellsUptoRow : OpenClaim := { program := "ytdoeoncmhaihbaa", sum := "e8aeb8835f1f161305929ede6b11aad612b85599aa385b6e3fe525cfa283a0f8", func := "neaptide/neaptidelaw17.LedgerTells", spec := "ledgerTells", unfollowed := true, recurses := true, apart := false, narrowed := true }
def LedgerTellsUptoSaid : Prop := ledgerTellsUptoRow.holds Try.pinned (OpenSpec.upto ledgerTellsSpec)

/-- 'neaptidelaw17.LedgerGrows', WHERE WHAT IT READS IS OF BULK AT MOST 1048576: true; the input reads as it did. -/
def ledgerGrowsUptoRow : OpenClaim := { program := "ytdoeoncmhaihbaa", sum := "e8aeb8835f1f161305929ede6b11aad612b85599aa385b6e3fe525cfa283a0f8", func := "neaptide/neaptidelaw17.LedgerGrows", spec := "ledgerGrows", unfollowed := true, recurses := true, apart := false, narrowed := true }
def LedgerGrowsUptoSaid : Prop := ledgerGrowsUptoRow.holds Try.pinned (OpenSpec.upto ledgerGrowsSpec)

/-- 'neaptidelaw17.LedgerOnce', WHERE WHAT IT READS IS OF BULK AT MOST 1048576: true; the input reads as it did. -/
def ledgerOnceUptoRow : OpenClaim := { program := "ytdoeoncmhaihbaa", sum := "e8aeb8835f1f161305929ede6b11aad612b85599aa385b6e3fe525cfa283a0f8", func := "neaptide/neaptidelaw17.LedgerOnce", spec := "ledgerOnce", unfollowed := true, recurses := true, apart := false, narrowed := true }
def LedgerOnceUptoSaid : Prop := ledgerOnceUptoRow.holds Try.pinned (OpenSpec.upto ledgerOnceSpec)

/-- 'neaptidelaw17.LedgerChain', WHERE WHAT IT READS IS OF BULK AT MOST 1048576: true; the input reads as it did. -/
def ledgerChainUptoRow : OpenClaim := { program := "ytdoeoncmhaihbaa", sum := "e8aeb8835f1f161305929ede6b11aad612b85599aa385b6e3fe525cfa283a0f8", func := "neaptide/neaptidelaw17.LedgerChain", spec := "ledgerChain", unfollowed := true, recurses := true, apart := false, narrowed := true }
def LedgerChainUptoSaid : Prop := ledgerChainUptoRow.holds Try.pinned (OpenSpec.upto ledgerChainSpec)

end Rows
end Go.Proofs.Ytdoeoncmhaihbaa
