/-
  DERIVED. GIVEN WITH THE SEED: THE CARDS: each row of YtldjkdomklgmaaaDoorRows.lean that lists a variable, with what it lists TIED to the program's text (the seventh form; the later family's looks); each row that meets fmt, with fmt's text TOLD by the authors' own Lean function (tested against real Go, not proved from fmt's source: count such statements apart). THE CARD IS WHAT COUNTS. Prove the row's statement (the work); the ties are given (YtldjkdomklgmaaaDoorTie.lean); close each card by the builder's one call (the guide's Derived/Test/ToyasCard.lean, 'card_holds'). Laid BY PROGRAM, IN A SANDBOX (cutbox-door.mjs). By AI agents, Wed Nov 11 2026. No macro, syntax, notation, axiom, sorry.
-/
import Derived.Test.YtldjkdomklgmaaaDoorRows
import GoSem.ClaimSeven
namespace Go.Proofs.YtldjkdomklgmaaaDoor
namespace Rows

/-- THE TIED CARD OF 'bluelinelaw01.SizeExamples'. -/
def sizeExamplesCard : Claim7 := { stood := { row := sizeExamplesRow, standIns := [], harness := (true, "fe0cb06a33bf50721182f1f0279b504ff126532311fc4208b8f9dbb8f5fc3fc3"), looks := true }, kinds := [], alts := [], laidByText := true, laidKinds := [.data, .data, .data, .data, .pinned], laidTests := true, laidLooks := .later }
def SizeExamplesCardSaid : Prop := Claim7.holds Tryd.pinned (.plain (OpenSpec.ofChange sizeExamplesSpec)) sizeExamplesCard

/-- THE TIED CARD OF 'bluelinelaw01.SizeWrites'. -/
def sizeWritesCard : Claim7 := { stood := { row := sizeWritesRow, standIns := [], harness := (true, "fe0cb06a33bf50721182f1f0279b504ff126532311fc4208b8f9dbb8f5fc3fc3"), looks := true }, kinds := [], alts := [], laidByText := true, laidKinds := [.data, .data, .data, .data, .pinned], laidTests := true, laidLooks := .later }
def SizeWritesCardSaid : Prop := Claim7.holds Tryd.pinned (.plain (OpenSpec.ofChange sizeWritesSpec)) sizeWritesCard

/-- THE TIED CARD OF 'bluelinelaw01.SizeInside'. -/
def sizeInsideCard : Claim7 := { stood := { row := sizeInsideRow, standIns := [], harness := (true, "fe0cb06a33bf50721182f1f0279b504ff126532311fc4208b8f9dbb8f5fc3fc3"), looks := true }, kinds := [], alts := [], laidByText := true, laidKinds := [.data, .data, .data, .data, .pinned], laidTests := true, laidLooks := .later }
def SizeInsideCardSaid : Prop := Claim7.holds Tryd.pinned (.plain (OpenSpec.ofChange sizeInsideSpec)) sizeInsideCard

/-- THE TIED CARD OF 'bluelinelaw01.SizeNever'. -/
def sizeNeverCard : Claim7 := { stood := { row := sizeNeverRow, standIns := [], harness := (true, "fe0cb06a33bf50721182f1f0279b504ff126532311fc4208b8f9dbb8f5fc3fc3"), looks := true }, kinds := [], alts := [], laidByText := true, laidKinds := [.data, .data, .data, .data, .pinned], laidTests := true, laidLooks := .later }
def SizeNeverCardSaid : Prop := Claim7.holds Tryd.pinned (.plain (OpenSpec.ofChange sizeNeverSpec)) sizeNeverCard

/-- THE TIED CARD OF 'bluelinelaw01.SizeBoth'. -/
def sizeBothCard : Claim7 := { stood := { row := sizeBothRow, standIns := [], harness := (true, "fe0cb06a33bf50721182f1f0279b504ff126532311fc4208b8f9dbb8f5fc3fc3"), looks := true }, kinds := [], alts := [], laidByText := true, laidKinds := [.data, .data, .data, .data, .pinned], laidTests := true, laidLooks := .later }
def SizeBothCardSaid : Prop := Claim7.holds Tryd.pinned (.plain (OpenSpec.ofChange sizeBothSpec)) sizeBothCard

/-- THE TIED CARD OF 'bluelinelaw01.SizeRead'. -/
def sizeReadCard : Claim7 := { stood := { row := sizeReadRow, standIns := [], harness := (true, "fe0cb06a33bf50721182f1f0279b504ff126532311fc4208b8f9dbb8f5fc3fc3"), looks := true }, kinds := [], alts := [], laidByText := true, laidKinds := [.data, .data, .data, .data, .pinned], laidTests := true, laidLooks := .later }
def SizeReadCardSaid : Prop := Claim7.holds Tryd.pinned (.plain (OpenSpec.ofChange sizeReadSpec)) sizeReadCard

/-- THE TIED CARD OF 'bluelinelaw01.SizeFitted'. -/
def sizeFittedCard : Claim7 := { stood := { row := sizeFittedRow, standIns := [], harness := (true, "fe0cb06a33bf50721182f1f0279b504ff126532311fc4208b8f9dbb8f5fc3fc3"), looks := true }, kinds := [], alts := [], laidByText := true, laidKinds := [.data, .data, .data, .data, .pinned], laidTests := true, laidLooks := .later }
def SizeFittedCardSaid : Prop := Claim7.holds Tryd.pinned (.plain (OpenSpec.ofChange sizeFittedSpec)) sizeFittedCard

/-- THE TIED CARD OF 'bluelinelaw01.SizeRedrawn'. -/
def sizeRedrawnCard : Claim7 := { stood := { row := sizeRedrawnRow, standIns := [], harness := (true, "fe0cb06a33bf50721182f1f0279b504ff126532311fc4208b8f9dbb8f5fc3fc3"), looks := true }, kinds := [], alts := [], laidByText := true, laidKinds := [.data, .data, .data, .data, .pinned], laidTests := true, laidLooks := .later }
def SizeRedrawnCardSaid : Prop := Claim7.holds Tryd.pinned (.plain (OpenSpec.ofChange sizeRedrawnSpec)) sizeRedrawnCard

/-- THE TIED CARD OF 'bluelinelaw01.SizeRoom'. -/
def sizeRoomCard : Claim7 := { stood := { row := sizeRoomRow, standIns := [], harness := (true, "fe0cb06a33bf50721182f1f0279b504ff126532311fc4208b8f9dbb8f5fc3fc3"), looks := true }, kinds := [], alts := [], laidByText := true, laidKinds := [.data, .data, .data, .data, .pinned], laidTests := true, laidLooks := .later }
def SizeRoomCardSaid : Prop := Claim7.holds Tryd.pinned (.plain (OpenSpec.ofChange sizeRoomSpec)) sizeRoomCard

/-- THE TIED CARD OF 'bluelinelaw01.SizeShared'. -/
def sizeSharedCard : Claim7 := { stood := { row := sizeSharedRow, standIns := [], harness := (true, "fe0cb06a33bf50721182f1f0279b504ff126532311fc4208b8f9dbb8f5fc3fc3"), looks := true }, kinds := [], alts := [], laidByText := true, laidKinds := [.data, .data, .data, .data, .pinned], laidTests := true, laidLooks := .later }
def SizeSharedCardSaid : Prop := Claim7.holds Tryd.pinned (.plain (OpenSpec.ofChange sizeSharedSpec)) sizeSharedCard

/-- THE SECOND FORM's CARD OF 'bluelinelaw01.SizeExamples'. -/
def sizeExamplesUptoCard : Claim7 := { stood := { row := sizeExamplesUptoRow, standIns := [], harness := (true, "fe0cb06a33bf50721182f1f0279b504ff126532311fc4208b8f9dbb8f5fc3fc3"), looks := true }, kinds := [], alts := [], laidByText := true, laidKinds := [.data, .data, .data, .data, .pinned], laidTests := true, laidLooks := .later }
def SizeExamplesUptoCardSaid : Prop := Claim7.holds Tryd.pinned (.plain (OpenSpec.upto sizeExamplesSpec)) sizeExamplesUptoCard

/-- THE SECOND FORM's CARD OF 'bluelinelaw01.SizeWrites'. -/
def sizeWritesUptoCard : Claim7 := { stood := { row := sizeWritesUptoRow, standIns := [], harness := (true, "fe0cb06a33bf50721182f1f0279b504ff126532311fc4208b8f9dbb8f5fc3fc3"), looks := true }, kinds := [], alts := [], laidByText := true, laidKinds := [.data, .data, .data, .data, .pinned], laidTests := true, laidLooks := .later }
def SizeWritesUptoCardSaid : Prop := Claim7.holds Tryd.pinned (.plain (OpenSpec.upto sizeWritesSpec)) sizeWritesUptoCard

/-- THE SECOND FORM's CARD OF 'bluelinelaw01.SizeInside'. -/
def sizeInsideUptoCard : Claim7 := { stood := { row := sizeInsideUptoRow, standIns := [], harness := (true, "fe0cb06a33bf50721182f1f0279b504ff126532311fc4208b8f9dbb8f5fc3fc3"), looks := true }, kinds := [], alts := [], laidByText := true, laidKinds := [.data, .data, .data, .data, .pinned], laidTests := true, laidLooks := .later }
def SizeInsideUptoCardSaid : Prop := Claim7.holds Tryd.pinned (.plain (OpenSpec.upto sizeInsideSpec)) sizeInsideUptoCard

/-- THE SECOND FORM's CARD OF 'bluelinelaw01.SizeNever'. -/
def sizeNeverUptoCard : Claim7 := { stood := { row := sizeNeverUptoRow, standIns := [], harness := (true, "fe0cb06a33bf50721182f1f0279b504ff126532311fc4208b8f9dbb8f5fc3fc3"), looks := true }, kinds := [], alts := [], laidByText := true, laidKinds := [.data, .data, .data, .data, .pinned], laidTests := true, laidLooks := .later }
def SizeNeverUptoCardSaid : Prop := Claim7.holds Tryd.pinned (.plain (OpenSpec.upto sizeNeverSpec)) sizeNeverUptoCard

/-- THE SECOND FORM's CARD OF 'bluelinelaw01.SizeBoth'. -/
def sizeBothUptoCard : Claim7 := { stood := { row := sizeBothUptoRow, standIns := [], harness := (true, "fe0cb06a33bf50721182f1f0279b504ff126532311fc4208b8f9dbb8f5fc3fc3"), looks := true }, kinds := [], alts := [], laidByText := true, laidKinds := [.data, .data, .data, .data, .pinned], laidTests := true, laidLooks := .later }
def SizeBothUptoCardSaid : Prop := Claim7.holds Tryd.pinned (.plain (OpenSpec.upto sizeBothSpec)) sizeBothUptoCard

/-- THE SECOND FORM's CARD OF 'bluelinelaw01.SizeRead'. -/
def sizeReadUptoCard : Claim7 := { stood := { row := sizeReadUptoRow, standIns := [], harness := (true, "fe0cb06a33bf50721182f1f0279b504ff126532311fc4208b8f9dbb8f5fc3fc3"), looks := true }, kinds := [], alts := [], laidByText := true, laidKinds := [.data, .data, .data, .data, .pinned], laidTests := true, laidLooks := .later }
def SizeReadUptoCardSaid : Prop := Claim7.holds Tryd.pinned (.plain (OpenSpec.upto sizeReadSpec)) sizeReadUptoCard

/-- THE SECOND FORM's CARD OF 'bluelinelaw01.SizeFitted'. -/
def sizeFittedUptoCard : Claim7 := { stood := { row := sizeFittedUptoRow, standIns := [], harness := (true, "fe0cb06a33bf50721182f1f0279b504ff126532311fc4208b8f9dbb8f5fc3fc3"), looks := true }, kinds := [], alts := [], laidByText := true, laidKinds := [.data, .data, .data, .data, .pinned], laidTests := true, laidLooks := .later }
def SizeFittedUptoCardSaid : Prop := Claim7.holds Tryd.pinned (.plain (OpenSpec.upto sizeFittedSpec)) sizeFittedUptoCard

/-- THE SECOND FORM's CARD OF 'bluelinelaw01.SizeRedrawn'. -/
def sizeRedrawnUptoCard : Claim7 := { stood := { row := sizeRedrawnUptoRow, standIns := [], harness := (true, "fe0cb06a33bf50721182f1f0279b504ff126532311fc4208b8f9dbb8f5fc3fc3"), looks := true }, kinds := [], alts := [], laidByText := true, laidKinds := [.data, .data, .data, .data, .pinned], laidTests := true, laidLooks := .later }
def SizeRedrawnUptoCardSaid : Prop := Claim7.holds Tryd.pinned (.plain (OpenSpec.upto sizeRedrawnSpec)) sizeRedrawnUptoCard

/-- THE SECOND FORM's CARD OF 'bluelinelaw01.SizeRoom'. -/
def sizeRoomUptoCard : Claim7 := { stood := { row := sizeRoomUptoRow, standIns := [], harness := (true, "fe0cb06a33bf50721182f1f0279b504ff126532311fc4208b8f9dbb8f5fc3fc3"), looks := true }, kinds := [], alts := [], laidByText := true, laidKinds := [.data, .data, .data, .data, .pinned], laidTests := true, laidLooks := .later }
def SizeRoomUptoCardSaid : Prop := Claim7.holds Tryd.pinned (.plain (OpenSpec.upto sizeRoomSpec)) sizeRoomUptoCard

/-- THE SECOND FORM's CARD OF 'bluelinelaw01.SizeShared'. -/
def sizeSharedUptoCard : Claim7 := { stood := { row := sizeSharedUptoRow, standIns := [], harness := (true, "fe0cb06a33bf50721182f1f0279b504ff126532311fc4208b8f9dbb8f5fc3fc3"), looks := true }, kinds := [], alts := [], laidByText := true, laidKinds := [.data, .data, .data, .data, .pinned], laidTests := true, laidLooks := .later }
def SizeSharedUptoCardSaid : Prop := Claim7.holds Tryd.pinned (.plain (OpenSpec.upto sizeSharedSpec)) sizeSharedUptoCard
end Rows
end Go.Proofs.YtldjkdomklgmaaaDoor
