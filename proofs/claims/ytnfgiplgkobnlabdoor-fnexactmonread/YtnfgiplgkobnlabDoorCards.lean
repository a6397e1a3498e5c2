/-
  DERIVED. GIVEN WITH THE SEED: THE CARDS: each row of YtnfgiplgkobnlabDoorRows.lean that lists a variable, with what it lists TIED to the program's text (the seventh form; the later family's looks); each row that meets fmt, with fmt's text TOLD by the authors' own Lean function (tested against real Go, not proved from fmt's source: count such statements apart). THE CARD IS WHAT COUNTS. Prove the row's statement (the work); the ties are given (YtnfgiplgkobnlabDoorTie.lean); close each card by the builder's one call (the guide's Derived/Test/ToyasCard.lean, 'card_holds'). Laid BY PROGRAM, IN A SANDBOX (cutbox-door.mjs). By AI agents, Wed Nov 11 2026. No macro, syntax, notation, axiom, sorry.
-/
import Derived.Test.YtnfgiplgkobnlabDoorRows
import GoSem.ClaimSeven
namespace Go.Proofs.YtnfgiplgkobnlabDoor
namespace Rows

/-- THE TIED CARD OF 'laws.FnExactMonRead'. -/
def fnExactMonReadCard : Claim7 := { stood := { row := fnExactMonReadRow, standIns := [], harness := (true, "c96c1556139355c18ab8d8907b755cc5b913a17e1006fe257f48b60c26de05cf"), looks := true }, kinds := [], alts := [], laidByText := true, laidKinds := [.data, .data, .data, .sentinel, .sentinel], laidTests := true, laidLooks := .later }
def FnExactMonReadCardSaid : Prop := Claim7.holds Tryd.pinned (.plain (OpenSpec.ofChange fnExactMonReadSpec)) fnExactMonReadCard

/-- THE SECOND FORM's CARD OF 'laws.FnExactMonRead'. -/
def fnExactMonReadUptoCard : Claim7 := { stood := { row := fnExactMonReadUptoRow, standIns := [], harness := (true, "c96c1556139355c18ab8d8907b755cc5b913a17e1006fe257f48b60c26de05cf"), looks := true }, kinds := [], alts := [], laidByText := true, laidKinds := [.data, .data, .data, .sentinel, .sentinel], laidTests := true, laidLooks := .later }
def FnExactMonReadUptoCardSaid : Prop := Claim7.holds Tryd.pinned (.plain (OpenSpec.upto fnExactMonReadSpec)) fnExactMonReadUptoCard
end Rows
end Go.Proofs.YtnfgiplgkobnlabDoor
