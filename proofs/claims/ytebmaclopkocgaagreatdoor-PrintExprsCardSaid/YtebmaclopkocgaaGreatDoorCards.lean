/-
  DERIVED. GIVEN WITH THE SEED: THE CARDS: each row of YtebmaclopkocgaaGreatDoorRows.lean that lists a variable, with what it lists TIED to the program's text (the seventh form; the later family's looks); each row that meets fmt, with fmt's text TOLD by the authors' own Lean function (tested against real Go, not proved from fmt's source: count such statements apart). THE CARD IS WHAT COUNTS. Prove the row's statement (the work); the ties are given (YtebmaclopkocgaaGreatDoorTie.lean); close each card by the builder's one call (the guide's Derived/Test/ToyasCard.lean, 'card_holds'). Laid BY PROGRAM, IN A SANDBOX (cutbox-door.mjs). By AI agents, Wed Nov 11 2026. No macro, syntax, notation, axiom, sorry.
-/
import Derived.Test.YtebmaclopkocgaaGreatDoorRows
import GoSem.ClaimSeven
namespace Go.Proofs.YtebmaclopkocgaaGreatDoor
namespace Rows

/-- THE TIED CARD OF 'winchlaw03.PrintExprs'. -/
def printExprsCard : Claim7 := { stood := { row := printExprsRow, standIns := [], harness := (true, "d801735fc7a786d053e0e29c995a3eab8c7b03e0d2235c7e66792a161ce09344"), looks := false }, kinds := [], alts := [], laidByText := true, laidKinds := [.data, .data, .data, .data, .data, .data, .pinned], laidTests := true, laidLooks := .later }
def PrintExprsCardSaid : Prop := Claim7.holds Tryz.pinned (.plain (OpenSpec.ofChange printExprsSpec)) printExprsCard

/-- THE TIED CARD OF 'winchlaw03.PrintConsts'. -/
def printConstsCard : Claim7 := { stood := { row := printConstsRow, standIns := [], harness := (true, "d801735fc7a786d053e0e29c995a3eab8c7b03e0d2235c7e66792a161ce09344"), looks := false }, kinds := [], alts := [], laidByText := true, laidKinds := [.data, .data, .data, .data, .pinned], laidTests := true, laidLooks := .later }
def PrintConstsCardSaid : Prop := Claim7.holds Tryz.pinned (.plain (OpenSpec.ofChange printConstsSpec)) printConstsCard

/-- THE SECOND FORM's CARD OF 'winchlaw03.PrintExprs'. -/
def printExprsUptoCard : Claim7 := { stood := { row := printExprsUptoRow, standIns := [], harness := (true, "d801735fc7a786d053e0e29c995a3eab8c7b03e0d2235c7e66792a161ce09344"), looks := false }, kinds := [], alts := [], laidByText := true, laidKinds := [.data, .data, .data, .data, .data, .data, .pinned], laidTests := true, laidLooks := .later }
def PrintExprsUptoCardSaid : Prop := Claim7.holds Tryz.pinned (.plain (OpenSpec.upto printExprsSpec)) printExprsUptoCard

/-- THE SECOND FORM's CARD OF 'winchlaw03.PrintConsts'. -/
def printConstsUptoCard : Claim7 := { stood := { row := printConstsUptoRow, standIns := [], harness := (true, "d801735fc7a786d053e0e29c995a3eab8c7b03e0d2235c7e66792a161ce09344"), looks := false }, kinds := [], alts := [], laidByText := true, laidKinds := [.data, .data, .data, .data, .pinned], laidTests := true, laidLooks := .later }
def PrintConstsUptoCardSaid : Prop := Claim7.holds Tryz.pinned (.plain (OpenSpec.upto printConstsSpec)) printConstsUptoCard
end Rows
end Go.Proofs.YtebmaclopkocgaaGreatDoor
