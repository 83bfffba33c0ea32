/-
  DERIVED. GIVEN WITH THE SEED: THE CARDS: each row of YtldjkdomklgmaabDoorRows.lean that lists a variable, with what it lists TIED to the program's text (the seventh form; the later family's looks); each row that meets fmt, with fmt's text TOLD by the authors' own Lean function (tested against real Go, not proved from fmt's source: count such statements apart). THE CARD IS WHAT COUNTS. Prove the row's statement (the work); the ties are given (YtldjkdomklgmaabDoorTie.lean); close each card by the builder's one call (the guide's Derived/Test/ToyasCard.lean, 'card_holds'). Laid BY PROGRAM, IN A SANDBOX (cutbox-door.mjs). By AI agents, Wed Nov 11 2026. No macro, syntax, notation, axiom, sorry.
-/
import Derived.Test.YtldjkdomklgmaabDoorRows
import GoSem.ClaimSeven
namespace Go.Proofs.YtldjkdomklgmaabDoor
namespace Rows

/-- THE TIED CARD OF 'bluelinelaw01.SizeMeets'. -/
def sizeMeetsCard : Claim7 := { stood := { row := sizeMeetsRow, standIns := [], harness := (true, "bc7f057cc75168de0af456b51bc637c3a6c9f9192b9c333dfd1f0643c48d6c0d"), looks := true }, kinds := [], alts := [], laidByText := true, laidKinds := [.data, .data, .data, .data, .pinned], laidTests := true, laidLooks := .later }
def SizeMeetsCardSaid : Prop := Claim7.holds Tryd.pinned (.plain (OpenSpec.ofChange sizeMeetsSpec)) sizeMeetsCard

/-- THE SECOND FORM's CARD OF 'bluelinelaw01.SizeMeets'. -/
def sizeMeetsUptoCard : Claim7 := { stood := { row := sizeMeetsUptoRow, standIns := [], harness := (true, "bc7f057cc75168de0af456b51bc637c3a6c9f9192b9c333dfd1f0643c48d6c0d"), looks := true }, kinds := [], alts := [], laidByText := true, laidKinds := [.data, .data, .data, .data, .pinned], laidTests := true, laidLooks := .later }
def SizeMeetsUptoCardSaid : Prop := Claim7.holds Tryd.pinned (.plain (OpenSpec.upto sizeMeetsSpec)) sizeMeetsUptoCard
end Rows
end Go.Proofs.YtldjkdomklgmaabDoor
