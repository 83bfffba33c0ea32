/-
  No cell of these rows narrows 'for every input' (looked for: loops, veiled, ifaces, maps, wideKeys, modest, calm, conditions, laid).
  DERIVED. THE GIVEN ROWS OF THIS SEAT. 14 by the template 'for every input the law returns true; each argument reads behind the call as it read before'; 0 by the template 'total and deterministic' (their statements: YtkjfceajakhlfaaTotals.lean).
  GIVEN WITH THE SEED: the statements are not yours to turn. If you find one false, say at which input.
  Laid BY PROGRAM, IN A SANDBOX (cutbox-rows.mjs): the forced cells as the released guide's own fill.sh prints them over the translation 465d2dc2c3b6511a… (all of the seat's roots in one cut). By AI agents, Wed Nov 11 2026. No macro, syntax, notation, axiom, sorry.
-/
import Derived.Test.YtkjfceajakhlfaaChecked
import GoSem.Claim
import GoSem.ClaimJoined
import GoSem.ClaimMapViews
import Derived.JoinedTies
import Derived.KernelRfl
namespace Go.Proofs.Ytkjfceajakhlfaa
/- THE CELL 'sum', in the pinned program and in every row, IS THE sha256 OF THE DUMP (.gsa) THAT YtkjfceajakhlfaaProg.lean LOADS. Nothing in Lean hashes anything: it is a label: what it is worth is what the hold of that sum in a sandbox is worth. -/
noncomputable def Try.pinned : Pinned := { name := "ytkjfceajakhlfaa", sum := "465d2dc2c3b6511a9f84d1c6e619a944420ade89fa0bc5953e269e1430bf73e3", checked := Try.checked }
namespace Rows
def none {H : Type} : Left H := { results := [], args := [] }

/-- 'bluelinelaw02.SheetTells': WHATEVER THE INPUT: true; the input reads as it did. -/
def sheetTellsSpec : ChangeSpec := { name := "sheetTells", fn := fun _ => fun
  | [d1, d2, d3] => { results := [.lit (.bool true)], args := [d1, d2, d3] }
  | _ => none }
def sheetTellsRow : OpenClaim := { program := "ytkjfceajakhlfaa", sum := "465d2dc2c3b6511a9f84d1c6e619a944420ade89fa0bc5953e269e1430bf73e3", func := "blueline/bluelinelaw02.SheetTells", spec := "sheetTells", unfollowed := true, recurses := true, apart := false }
def SheetTellsSaid : Prop := sheetTellsRow.holds Try.pinned (OpenSpec.ofChange sheetTellsSpec)

/-- ITS FALSE NEIGHBOUR: 'it returns false'. Refute it at one input. -/
def sheetTellsWrong : ChangeSpec := { name := "sheetTells", fn := fun _ => fun
  | [d1, d2, d3] => { results := [.lit (.bool false)], args := [d1, d2, d3] }
  | _ => none }
def SheetTellsWrongFalsely : Prop := sheetTellsRow.holds Try.pinned (OpenSpec.ofChange sheetTellsWrong)

/-- 'bluelinelaw02.SheetParts': WHATEVER THE INPUT: true; the input reads as it did. -/
def sheetPartsSpec : ChangeSpec := { name := "sheetParts", fn := fun _ => fun
  | [d1, d2, d3] => { results := [.lit (.bool true)], args := [d1, d2, d3] }
  | _ => none }
def sheetPartsRow : OpenClaim := { program := "ytkjfceajakhlfaa", sum := "465d2dc2c3b6511a9f84d1c6e619a944420ade89fa0bc5953e269e1430bf73e3", func := "blueline/bluelinelaw02.SheetParts", spec := "sheetParts", unfollowed := true, recurses := true, apart := false }
def SheetPartsSaid : Prop := sheetPartsRow.holds Try.pinned (OpenSpec.ofChange sheetPartsSpec)

/-- ITS FALSE NEIGHBOUR: 'it returns false'. Refute it at one input. -/
def sheetPartsWrong : ChangeSpec := { name := "sheetParts", fn := fun _ => fun
  | [d1, d2, d3] => { results := [.lit (.bool false)], args := [d1, d2, d3] }
  | _ => none }
def SheetPartsWrongFalsely : Prop := sheetPartsRow.holds Try.pinned (OpenSpec.ofChange sheetPartsWrong)

/-- 'bluelinelaw02.SheetUses': WHATEVER THE INPUT: true; the input reads as it did. -/
def sheetUsesSpec : ChangeSpec := { name := "sheetUses", fn := fun _ => fun
  | [d1, d2, d3, d4, d5] => { results := [.lit (.bool true)], args := [d1, d2, d3, d4, d5] }
  | _ => none }
def sheetUsesRow : OpenClaim := { program := "ytkjfceajakhlfaa", sum := "465d2dc2c3b6511a9f84d1c6e619a944420ade89fa0bc5953e269e1430bf73e3", func := "blueline/bluelinelaw02.SheetUses", spec := "sheetUses", unfollowed := true, recurses := true, apart := false }
def SheetUsesSaid : Prop := sheetUsesRow.holds Try.pinned (OpenSpec.ofChange sheetUsesSpec)

/-- ITS FALSE NEIGHBOUR: 'it returns false'. Refute it at one input. -/
def sheetUsesWrong : ChangeSpec := { name := "sheetUses", fn := fun _ => fun
  | [d1, d2, d3, d4, d5] => { results := [.lit (.bool false)], args := [d1, d2, d3, d4, d5] }
  | _ => none }
def SheetUsesWrongFalsely : Prop := sheetUsesRow.holds Try.pinned (OpenSpec.ofChange sheetUsesWrong)

/-- 'bluelinelaw02.SheetMerges': WHATEVER THE INPUT: true; the input reads as it did. -/
def sheetMergesSpec : ChangeSpec := { name := "sheetMerges", fn := fun _ => fun
  | [d1, d2] => { results := [.lit (.bool true)], args := [d1, d2] }
  | _ => none }
def sheetMergesRow : OpenClaim := { program := "ytkjfceajakhlfaa", sum := "465d2dc2c3b6511a9f84d1c6e619a944420ade89fa0bc5953e269e1430bf73e3", func := "blueline/bluelinelaw02.SheetMerges", spec := "sheetMerges", unfollowed := true, recurses := true, apart := false }
def SheetMergesSaid : Prop := sheetMergesRow.holds Try.pinned (OpenSpec.ofChange sheetMergesSpec)

/-- ITS FALSE NEIGHBOUR: 'it returns false'. Refute it at one input. -/
def sheetMergesWrong : ChangeSpec := { name := "sheetMerges", fn := fun _ => fun
  | [d1, d2] => { results := [.lit (.bool false)], args := [d1, d2] }
  | _ => none }
def SheetMergesWrongFalsely : Prop := sheetMergesRow.holds Try.pinned (OpenSpec.ofChange sheetMergesWrong)

/-- 'bluelinelaw02.SheetExamples': WHATEVER THE INPUT: true; the input reads as it did. -/
def sheetExamplesSpec : ChangeSpec := { name := "sheetExamples", fn := fun _ => fun
  | [] => { results := [.lit (.bool true)], args := [] }
  | _ => none }
def sheetExamplesRow : OpenClaim := { program := "ytkjfceajakhlfaa", sum := "465d2dc2c3b6511a9f84d1c6e619a944420ade89fa0bc5953e269e1430bf73e3", func := "blueline/bluelinelaw02.SheetExamples", spec := "sheetExamples", unfollowed := true, recurses := true, apart := false }
def SheetExamplesSaid : Prop := sheetExamplesRow.holds Try.pinned (OpenSpec.ofChange sheetExamplesSpec)

/-- ITS FALSE NEIGHBOUR: 'it returns false'. Refute it at one input. -/
def sheetExamplesWrong : ChangeSpec := { name := "sheetExamples", fn := fun _ => fun
  | [] => { results := [.lit (.bool false)], args := [] }
  | _ => none }
def SheetExamplesWrongFalsely : Prop := sheetExamplesRow.holds Try.pinned (OpenSpec.ofChange sheetExamplesWrong)

/-- 'bluelinelaw02.SheetOnce': WHATEVER THE INPUT: true; the input reads as it did. -/
def sheetOnceSpec : ChangeSpec := { name := "sheetOnce", fn := fun _ => fun
  | [d1, d2] => { results := [.lit (.bool true)], args := [d1, d2] }
  | _ => none }
def sheetOnceRow : OpenClaim := { program := "ytkjfceajakhlfaa", sum := "465d2dc2c3b6511a9f84d1c6e619a944420ade89fa0bc5953e269e1430bf73e3", func := "blueline/bluelinelaw02.SheetOnce", spec := "sheetOnce", unfollowed := true, recurses := true, apart := false }
def SheetOnceSaid : Prop := sheetOnceRow.holds Try.pinned (OpenSpec.ofChange sheetOnceSpec)

/-- ITS FALSE NEIGHBOUR: 'it returns false'. Refute it at one input. -/
def sheetOnceWrong : ChangeSpec := { name := "sheetOnce", fn := fun _ => fun
  | [d1, d2] => { results := [.lit (.bool false)], args := [d1, d2] }
  | _ => none }
def SheetOnceWrongFalsely : Prop := sheetOnceRow.holds Try.pinned (OpenSpec.ofChange sheetOnceWrong)

/-- 'bluelinelaw02.SheetSides': WHATEVER THE INPUT: true; the input reads as it did. -/
def sheetSidesSpec : ChangeSpec := { name := "sheetSides", fn := fun _ => fun
  | [d1, d2] => { results := [.lit (.bool true)], args := [d1, d2] }
  | _ => none }
def sheetSidesRow : OpenClaim := { program := "ytkjfceajakhlfaa", sum := "465d2dc2c3b6511a9f84d1c6e619a944420ade89fa0bc5953e269e1430bf73e3", func := "blueline/bluelinelaw02.SheetSides", spec := "sheetSides", unfollowed := true, recurses := true, apart := false }
def SheetSidesSaid : Prop := sheetSidesRow.holds Try.pinned (OpenSpec.ofChange sheetSidesSpec)

/-- ITS FALSE NEIGHBOUR: 'it returns false'. Refute it at one input. -/
def sheetSidesWrong : ChangeSpec := { name := "sheetSides", fn := fun _ => fun
  | [d1, d2] => { results := [.lit (.bool false)], args := [d1, d2] }
  | _ => none }
def SheetSidesWrongFalsely : Prop := sheetSidesRow.holds Try.pinned (OpenSpec.ofChange sheetSidesWrong)

/-- 'bluelinelaw02.SheetEnds': WHATEVER THE INPUT: true; the input reads as it did. -/
def sheetEndsSpec : ChangeSpec := { name := "sheetEnds", fn := fun _ => fun
  | [d1, d2, d3] => { results := [.lit (.bool true)], args := [d1, d2, d3] }
  | _ => none }
def sheetEndsRow : OpenClaim := { program := "ytkjfceajakhlfaa", sum := "465d2dc2c3b6511a9f84d1c6e619a944420ade89fa0bc5953e269e1430bf73e3", func := "blueline/bluelinelaw02.SheetEnds", spec := "sheetEnds", unfollowed := true, recurses := true, apart := false }
def SheetEndsSaid : Prop := sheetEndsRow.holds Try.pinned (OpenSpec.ofChange sheetEndsSpec)

/-- ITS FALSE NEIGHBOUR: 'it returns false'. Refute it at one input. -/
def sheetEndsWrong : ChangeSpec := { name := "sheetEnds", fn := fun _ => fun
  | [d1, d2, d3] => { results := [.lit (.bool false)], args := [d1, d2, d3] }
  | _ => none }
def SheetEndsWrongFalsely : Prop := sheetEndsRow.holds Try.pinned (OpenSpec.ofChange sheetEndsWrong)

/-- 'bluelinelaw02.SheetItems': WHATEVER THE INPUT: true; the input reads as it did. -/
def sheetItemsSpec : ChangeSpec := { name := "sheetItems", fn := fun _ => fun
  | [d1, d2, d3] => { results := [.lit (.bool true)], args := [d1, d2, d3] }
  | _ => none }
def sheetItemsRow : OpenClaim := { program := "ytkjfceajakhlfaa", sum := "465d2dc2c3b6511a9f84d1c6e619a944420ade89fa0bc5953e269e1430bf73e3", func := "blueline/bluelinelaw02.SheetItems", spec := "sheetItems", unfollowed := true, recurses := true, apart := false }
def SheetItemsSaid : Prop := sheetItemsRow.holds Try.pinned (OpenSpec.ofChange sheetItemsSpec)

/-- ITS FALSE NEIGHBOUR: 'it returns false'. Refute it at one input. -/
def sheetItemsWrong : ChangeSpec := { name := "sheetItems", fn := fun _ => fun
  | [d1, d2, d3] => { results := [.lit (.bool false)], args := [d1, d2, d3] }
  | _ => none }
def SheetItemsWrongFalsely : Prop := sheetItemsRow.holds Try.pinned (OpenSpec.ofChange sheetItemsWrong)

/-- 'bluelinelaw02.SheetLetter': WHATEVER THE INPUT: true; the input reads as it did. -/
def sheetLetterSpec : ChangeSpec := { name := "sheetLetter", fn := fun _ => fun
  | [d1, d2, d3, d4, d5] => { results := [.lit (.bool true)], args := [d1, d2, d3, d4, d5] }
  | _ => none }
def sheetLetterRow : OpenClaim := { program := "ytkjfceajakhlfaa", sum := "465d2dc2c3b6511a9f84d1c6e619a944420ade89fa0bc5953e269e1430bf73e3", func := "blueline/bluelinelaw02.SheetLetter", spec := "sheetLetter", unfollowed := true, recurses := true, apart := false }
def SheetLetterSaid : Prop := sheetLetterRow.holds Try.pinned (OpenSpec.ofChange sheetLetterSpec)

/-- ITS FALSE NEIGHBOUR: 'it returns false'. Refute it at one input. -/
def sheetLetterWrong : ChangeSpec := { name := "sheetLetter", fn := fun _ => fun
  | [d1, d2, d3, d4, d5] => { results := [.lit (.bool false)], args := [d1, d2, d3, d4, d5] }
  | _ => none }
def SheetLetterWrongFalsely : Prop := sheetLetterRow.holds Try.pinned (OpenSpec.ofChange sheetLetterWrong)

/-- 'bluelinelaw02.SheetDeep': WHATEVER THE INPUT: true; the input reads as it did. -/
def sheetDeepSpec : ChangeSpec := { name := "sheetDeep", fn := fun _ => fun
  | [d1, d2, d3] => { results := [.lit (.bool true)], args := [d1, d2, d3] }
  | _ => none }
def sheetDeepRow : OpenClaim := { program := "ytkjfceajakhlfaa", sum := "465d2dc2c3b6511a9f84d1c6e619a944420ade89fa0bc5953e269e1430bf73e3", func := "blueline/bluelinelaw02.SheetDeep", spec := "sheetDeep", unfollowed := true, recurses := true, apart := false }
def SheetDeepSaid : Prop := sheetDeepRow.holds Try.pinned (OpenSpec.ofChange sheetDeepSpec)

/-- ITS FALSE NEIGHBOUR: 'it returns false'. Refute it at one input. -/
def sheetDeepWrong : ChangeSpec := { name := "sheetDeep", fn := fun _ => fun
  | [d1, d2, d3] => { results := [.lit (.bool false)], args := [d1, d2, d3] }
  | _ => none }
def SheetDeepWrongFalsely : Prop := sheetDeepRow.holds Try.pinned (OpenSpec.ofChange sheetDeepWrong)

/-- 'bluelinelaw02.SheetTurned': WHATEVER THE INPUT: true; the input reads as it did. -/
def sheetTurnedSpec : ChangeSpec := { name := "sheetTurned", fn := fun _ => fun
  | [d1, d2, d3, d4] => { results := [.lit (.bool true)], args := [d1, d2, d3, d4] }
  | _ => none }
def sheetTurnedRow : OpenClaim := { program := "ytkjfceajakhlfaa", sum := "465d2dc2c3b6511a9f84d1c6e619a944420ade89fa0bc5953e269e1430bf73e3", func := "blueline/bluelinelaw02.SheetTurned", spec := "sheetTurned", unfollowed := true, recurses := true, apart := false }
def SheetTurnedSaid : Prop := sheetTurnedRow.holds Try.pinned (OpenSpec.ofChange sheetTurnedSpec)

/-- ITS FALSE NEIGHBOUR: 'it returns false'. Refute it at one input. -/
def sheetTurnedWrong : ChangeSpec := { name := "sheetTurned", fn := fun _ => fun
  | [d1, d2, d3, d4] => { results := [.lit (.bool false)], args := [d1, d2, d3, d4] }
  | _ => none }
def SheetTurnedWrongFalsely : Prop := sheetTurnedRow.holds Try.pinned (OpenSpec.ofChange sheetTurnedWrong)

/-- 'bluelinelaw02.SheetBelow': WHATEVER THE INPUT: true; the input reads as it did. -/
def sheetBelowSpec : ChangeSpec := { name := "sheetBelow", fn := fun _ => fun
  | [d1, d2, d3] => { results := [.lit (.bool true)], args := [d1, d2, d3] }
  | _ => none }
def sheetBelowRow : OpenClaim := { program := "ytkjfceajakhlfaa", sum := "465d2dc2c3b6511a9f84d1c6e619a944420ade89fa0bc5953e269e1430bf73e3", func := "blueline/bluelinelaw02.SheetBelow", spec := "sheetBelow", unfollowed := true, recurses := true, apart := false }
def SheetBelowSaid : Prop := sheetBelowRow.holds Try.pinned (OpenSpec.ofChange sheetBelowSpec)

/-- ITS FALSE NEIGHBOUR: 'it returns false'. Refute it at one input. -/
def sheetBelowWrong : ChangeSpec := { name := "sheetBelow", fn := fun _ => fun
  | [d1, d2, d3] => { results := [.lit (.bool false)], args := [d1, d2, d3] }
  | _ => none }
def SheetBelowWrongFalsely : Prop := sheetBelowRow.holds Try.pinned (OpenSpec.ofChange sheetBelowWrong)

/-- 'bluelinelaw02.SheetSized': WHATEVER THE INPUT: true; the input reads as it did. -/
def sheetSizedSpec : ChangeSpec := { name := "sheetSized", fn := fun _ => fun
  | [d1, d2, d3] => { results := [.lit (.bool true)], args := [d1, d2, d3] }
  | _ => none }
def sheetSizedRow : OpenClaim := { program := "ytkjfceajakhlfaa", sum := "465d2dc2c3b6511a9f84d1c6e619a944420ade89fa0bc5953e269e1430bf73e3", func := "blueline/bluelinelaw02.SheetSized", spec := "sheetSized", unfollowed := true, recurses := true, apart := false }
def SheetSizedSaid : Prop := sheetSizedRow.holds Try.pinned (OpenSpec.ofChange sheetSizedSpec)

/-- ITS FALSE NEIGHBOUR: 'it returns false'. Refute it at one input. -/
def sheetSizedWrong : ChangeSpec := { name := "sheetSized", fn := fun _ => fun
  | [d1, d2, d3] => { results := [.lit (.bool false)], args := [d1, d2, d3] }
  | _ => none }
def SheetSizedWrongFalsely : Prop := sheetSizedRow.holds Try.pinned (OpenSpec.ofChange sheetSizedWrong)

/- THE SECOND FORM. 'bulk': how many values and letters a reading holds, each counted each time it is reached (what is shared counts as often as it is met; a slice's spare places count too). A statement '..UptoSaid' is the law's where the arguments, and the package variables that the reading takes, are together of bulk at most 1048576: NARROWER than '..Said'. Prove '..Said' where nothing that the law and all that it calls make is longer than what came in: it says more and counts as full. Else prove '..UptoSaid'. A law counts once. -/
mutual
def uptoBulk {H : Type} : DataW H → Nat
  | .lit (.string bytes) => bytes.length + 1
  | .lit _ => 1
  | .nil => 1
  | .ptr d => uptoBulk d + 1
  | .slice elems spare => uptoBulkAll elems + uptoBulkAll spare + 1
  | .agg parts => uptoBulkAll parts + 1
  | .iface _ d => uptoBulk d + 1
  | .map entries => uptoBulkEntries entries + 1
  | .held _ => 1
def uptoBulkAll {H : Type} : List (DataW H) → Nat
  | [] => 0
  | d :: r => uptoBulk d + uptoBulkAll r
def uptoBulkEntries {H : Type} : List (Lit × DataW H) → Nat
  | [] => 0
  | x :: r => uptoBulkEntry x + uptoBulkEntries r
def uptoBulkEntry {H : Type} : Lit × DataW H → Nat
  | (.string bytes, d) => bytes.length + uptoBulk d + 1
  | (_, d) => uptoBulk d + 1
 end
def uptoSmall : (H : Type) → List (DataW H) → Bool := fun _ ds => decide (uptoBulkAll ds ≤ 1048576)
def OpenSpec.upto (s : _root_.Go.ChangeSpec) : _root_.Go.OpenSpec := { _root_.Go.OpenSpec.ofChange s with cond := some uptoSmall }

/-- 'bluelinelaw02.SheetTells', WHERE WHAT IT READS IS OF BULK AT MOST 1048576: true; the input reads as it did. -/
def sheetTellsUptoRow : OpenClaim := { program := "ytkjfceajakhlfaa", sum := "465d2dc2c3b6511a9f84d1c6e619a944420ade89fa0bc5953e269e1430bf73e3", func := "blueline/bluelinelaw02.SheetTells", spec := "sheetTells", unfollowed := true, recurses := true, apart := false, narrowed := true }
def SheetTellsUptoSaid : Prop := sheetTellsUptoRow.holds Try.pinned (OpenSpec.upto sheetTellsSpec)

/-- 'bluelinelaw02.SheetParts', WHERE WHAT IT READS IS OF BULK AT MOST 1048576: true; the input reads as it did. -/
def sheetPartsUptoRow : OpenClaim := { program := "ytkjfceajakhlfaa", sum := "465d2dc2c3b6511a9f84d1c6e619a944420ade89fa0bc5953e269e1430bf73e3", func := "blueline/bluelinelaw02.SheetParts", spec := "sheetParts", unfollowed := true, recurses := true, apart := false, narrowed := true }
def SheetPartsUptoSaid : Prop := sheetPartsUptoRow.holds Try.pinned (OpenSpec.upto sheetPartsSpec)

/-- 'bluelinelaw02.SheetUses', WHERE WHAT IT READS IS OF BULK AT MOST 1048576: true; the input reads as it did. -/
def sheetUsesUptoRow : OpenClaim := { program := "ytkjfceajakhlfaa", sum := "465d2dc2c3b6511a9f84d1c6e619a944420ade89fa0bc5953e269e1430bf73e3", func := "blueline/bluelinelaw02.SheetUses", spec := "sheetUses", unfollowed := true, recurses := true, apart := false, narrowed := true }
def SheetUsesUptoSaid : Prop := sheetUsesUptoRow.holds Try.pinned (OpenSpec.upto sheetUsesSpec)

/-- 'bluelinelaw02.SheetMerges', WHERE WHAT IT READS IS OF BULK AT MOST 1048576: true; the input reads as it did. -/
def sheetMergesUptoRow : OpenClaim := { program := "ytkjfceajakhlfaa", sum := "465d2dc2c3b6511a9f84d1c6e619a944420ade89fa0bc5953e269e1430bf73e3", func := "blueline/bluelinelaw02.SheetMerges", spec := "sheetMerges", unfollowed := true, recurses := true, apart := false, narrowed := true }
def SheetMergesUptoSaid : Prop := sheetMergesUptoRow.holds Try.pinned (OpenSpec.upto sheetMergesSpec)

/-- 'bluelinelaw02.SheetExamples', WHERE WHAT IT READS IS OF BULK AT MOST 1048576: true; the input reads as it did. -/
def sheetExamplesUptoRow : OpenClaim := { program := "ytkjfceajakhlfaa", sum := "465d2dc2c3b6511a9f84d1c6e619a944420ade89fa0bc5953e269e1430bf73e3", func := "blueline/bluelinelaw02.SheetExamples", spec := "sheetExamples", unfollowed := true, recurses := true, apart := false, narrowed := true }
def SheetExamplesUptoSaid : Prop := sheetExamplesUptoRow.holds Try.pinned (OpenSpec.upto sheetExamplesSpec)

/-- 'bluelinelaw02.SheetOnce', WHERE WHAT IT READS IS OF BULK AT MOST 1048576: true; the input reads as it did. -/
def sheetOnceUptoRow : OpenClaim := { program := "ytkjfceajakhlfaa", sum := "465d2dc2c3b6511a9f84d1c6e619a944420ade89fa0bc5953e269e1430bf73e3", func := "blueline/bluelinelaw02.SheetOnce", spec := "sheetOnce", unfollowed := true, recurses := true, apart := false, narrowed := true }
def SheetOnceUptoSaid : Prop := sheetOnceUptoRow.holds Try.pinned (OpenSpec.upto sheetOnceSpec)

/-- 'bluelinelaw02.SheetSides', WHERE WHAT IT READS IS OF BULK AT MOST 1048576: true; the input reads as it did. -/
def sheetSidesUptoRow : OpenClaim := { program := "ytkjfceajakhlfaa", sum := "465d2dc2c3b6511a9f84d1c6e619a944420ade89fa0bc5953e269e1430bf73e3", func := "blueline/bluelinelaw02.SheetSides", spec := "sheetSides", unfollowed := true, recurses := true, apart := false, narrowed := true }
def SheetSidesUptoSaid : Prop := sheetSidesUptoRow.holds Try.pinned (OpenSpec.upto sheetSidesSpec)

/-- 'bluelinelaw02.SheetEnds', WHERE WHAT IT READS IS OF BULK AT MOST 1048576: true; the input reads as it did. -/
def sheetEndsUptoRow : OpenClaim := { program := "ytkjfceajakhlfaa", sum := "465d2dc2c3b6511a9f84d1c6e619a944420ade89fa0bc5953e269e1430bf73e3", func := "blueline/bluelinelaw02.SheetEnds", spec := "sheetEnds", unfollowed := true, recurses := true, apart := false, narrowed := true }
def SheetEndsUptoSaid : Prop := sheetEndsUptoRow.holds Try.pinned (OpenSpec.upto sheetEndsSpec)

/-- 'bluelinelaw02.SheetItems', WHERE WHAT IT READS IS OF BULK AT MOST 1048576: true; the input reads as it did. -/
def sheetItemsUptoRow : OpenClaim := { program := "ytkjfceajakhlfaa", sum := "465d2dc2c3b6511a9f84d1c6e619a944420ade89fa0bc5953e269e1430bf73e3", func := "blueline/bluelinelaw02.SheetItems", spec := "sheetItems", unfollowed := true, recurses := true, apart := false, narrowed := true }
def SheetItemsUptoSaid : Prop := sheetItemsUptoRow.holds Try.pinned (OpenSpec.upto sheetItemsSpec)

/-- 'bluelinelaw02.SheetLetter', WHERE WHAT IT READS IS OF BULK AT MOST 1048576: true; the input reads as it did. -/
def sheetLetterUptoRow : OpenClaim := { program := "ytkjfceajakhlfaa", sum := "465d2dc2c3b6511a9f84d1c6e619a944420ade89fa0bc5953e269e1430bf73e3", func := "blueline/bluelinelaw02.SheetLetter", spec := "sheetLetter", unfollowed := true, recurses := true, apart := false, narrowed := true }
def SheetLetterUptoSaid : Prop := sheetLetterUptoRow.holds Try.pinned (OpenSpec.upto sheetLetterSpec)

/-- 'bluelinelaw02.SheetDeep', WHERE WHAT IT READS IS OF BULK AT MOST 1048576: true; the input reads as it did. -/
def sheetDeepUptoRow : OpenClaim := { program := "ytkjfceajakhlfaa", sum := "465d2dc2c3b6511a9f84d1c6e619a944420ade89fa0bc5953e269e1430bf73e3", func := "blueline/bluelinelaw02.SheetDeep", spec := "sheetDeep", unfollowed := true, recurses := true, apart := false, narrowed := true }
def SheetDeepUptoSaid : Prop := sheetDeepUptoRow.holds Try.pinned (OpenSpec.upto sheetDeepSpec)

/-- 'bluelinelaw02.SheetTurned', WHERE WHAT IT READS IS OF BULK AT MOST 1048576: true; the input reads as it did. -/
def sheetTurnedUptoRow : OpenClaim := { program := "ytkjfceajakhlfaa", sum := "465d2dc2c3b6511a9f84d1c6e619a944420ade89fa0bc5953e269e1430bf73e3", func := "blueline/bluelinelaw02.SheetTurned", spec := "sheetTurned", unfollowed := true, recurses := true, apart := false, narrowed := true }
def SheetTurnedUptoSaid : Prop := sheetTurnedUptoRow.holds Try.pinned (OpenSpec.upto sheetTurnedSpec)

/-- 'bluelinelaw02.SheetBelow', WHERE WHAT IT READS IS OF BULK AT MOST 1048576: true; the input reads as it did. -/
def sheetBelowUptoRow : OpenClaim := { program := "ytkjfceajakhlfaa", sum := "465d2dc2c3b6511a9f84d1c6e619a944420ade89fa0bc5953e269e1430bf73e3", func := "blueline/bluelinelaw02.SheetBelow", spec := "sheetBelow", unfollowed := true, recurses := true, apart := false, narrowed := true }
def SheetBelowUptoSaid : Prop := sheetBelowUptoRow.holds Try.pinned (OpenSpec.upto sheetBelowSpec)

/-- 'bluelinelaw02.SheetSized', WHERE WHAT IT READS IS OF BULK AT MOST 1048576: true; the input reads as it did. -/
def sheetSizedUptoRow : OpenClaim := { program := "ytkjfceajakhlfaa", sum := "465d2dc2c3b6511a9f84d1c6e619a944420ade89fa0bc5953e269e1430bf73e3", func := "blueline/bluelinelaw02.SheetSized", spec := "sheetSized", unfollowed := true, recurses := true, apart := false, narrowed := true }
def SheetSizedUptoSaid : Prop := sheetSizedUptoRow.holds Try.pinned (OpenSpec.upto sheetSizedSpec)

end Rows
end Go.Proofs.Ytkjfceajakhlfaa
