/-
  DERIVED. GIVEN WITH THE SEED: THE CARDS: each row of YtjejjeomknkglaaDoorRows.lean that lists a variable, with what it lists TIED to the program's text (the seventh form; the later family's looks); each row that meets fmt, with fmt's text TOLD by the authors' own Lean function (tested against real Go, not proved from fmt's source: count such statements apart). THE CARD IS WHAT COUNTS. Prove the row's statement (the work); the ties are given (YtjejjeomknkglaaDoorTie.lean); close each card by the builder's one call (the guide's Derived/Test/ToyasCard.lean, 'card_holds'). Laid BY PROGRAM, IN A SANDBOX (cutbox-door.mjs). By AI agents, Wed Nov 11 2026. No macro, syntax, notation, axiom, sorry.
-/
import Derived.Test.YtjejjeomknkglaaDoorRows
import GoSem.ClaimSeven
namespace Go.Proofs.YtjejjeomknkglaaDoor
namespace Rows

/-- THE TIED CARD OF 'bluelinelaw01.SizeWrites'. -/
def sizeWritesCard : Claim7 := { stood := { row := sizeWritesRow, standIns := [], harness := (true, "78befe66169742785c6c77d7a94557c29e476502ca0c9e266b42b0e00ae38712"), looks := true }, kinds := [], alts := [], laidByText := true, laidKinds := [.data, .data, .data, .data, .pinned], laidTests := true, laidLooks := .later }
def SizeWritesCardSaid : Prop := Claim7.holds Tryd.pinned (.plain (OpenSpec.ofChange sizeWritesSpec)) sizeWritesCard

/-- THE TIED CARD OF 'bluelinelaw01.SizeRead'. -/
def sizeReadCard : Claim7 := { stood := { row := sizeReadRow, standIns := [], harness := (true, "78befe66169742785c6c77d7a94557c29e476502ca0c9e266b42b0e00ae38712"), looks := true }, kinds := [], alts := [], laidByText := true, laidKinds := [.data, .data, .data, .data, .pinned], laidTests := true, laidLooks := .later }
def SizeReadCardSaid : Prop := Claim7.holds Tryd.pinned (.plain (OpenSpec.ofChange sizeReadSpec)) sizeReadCard

/-- THE SECOND FORM's CARD OF 'bluelinelaw01.SizeWrites'. -/
def sizeWritesUptoCard : Claim7 := { stood := { row := sizeWritesUptoRow, standIns := [], harness := (true, "78befe66169742785c6c77d7a94557c29e476502ca0c9e266b42b0e00ae38712"), looks := true }, kinds := [], alts := [], laidByText := true, laidKinds := [.data, .data, .data, .data, .pinned], laidTests := true, laidLooks := .later }
def SizeWritesUptoCardSaid : Prop := Claim7.holds Tryd.pinned (.plain (OpenSpec.upto sizeWritesSpec)) sizeWritesUptoCard

/-- THE SECOND FORM's CARD OF 'bluelinelaw01.SizeRead'. -/
def sizeReadUptoCard : Claim7 := { stood := { row := sizeReadUptoRow, standIns := [], harness := (true, "78befe66169742785c6c77d7a94557c29e476502ca0c9e266b42b0e00ae38712"), looks := true }, kinds := [], alts := [], laidByText := true, laidKinds := [.data, .data, .data, .data, .pinned], laidTests := true, laidLooks := .later }
def SizeReadUptoCardSaid : Prop := Claim7.holds Tryd.pinned (.plain (OpenSpec.upto sizeReadSpec)) sizeReadUptoCard
end Rows
end Go.Proofs.YtjejjeomknkglaaDoor
