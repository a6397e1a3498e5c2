/-
  DERIVED. GIVEN WITH THE SEED: THE CARDS: each row of YtoglomfejgpoeaaDoorRows.lean that lists a variable, with what it lists TIED to the program's text (the seventh form; the later family's looks); each row that meets fmt, with fmt's text TOLD by the authors' own Lean function (tested against real Go, not proved from fmt's source: count such statements apart). THE CARD IS WHAT COUNTS. Prove the row's statement (the work); the ties are given (YtoglomfejgpoeaaDoorTie.lean); close each card by the builder's one call (the guide's Derived/Test/ToyasCard.lean, 'card_holds'). Laid BY PROGRAM, IN A SANDBOX (cutbox-door.mjs). By AI agents, Wed Nov 11 2026. No macro, syntax, notation, axiom, sorry.
-/
import Derived.Test.YtoglomfejgpoeaaDoorRows
import GoSem.ClaimSeven
namespace Go.Proofs.YtoglomfejgpoeaaDoor
namespace Rows

/-- THE TIED CARD OF 'laws.FnExactDskText'. -/
def fnExactDskTextCard : Claim7 := { stood := { row := fnExactDskTextRow, standIns := [], harness := (true, "84df57eedd8b0faf7ce12216099f762c0e16a5633e1a903e5280e840a6790b26"), looks := false }, kinds := [], alts := [], laidByText := true, laidKinds := [.data, .data, .data, .data], laidTests := true, laidLooks := .later }
def FnExactDskTextCardSaid : Prop := Claim7.holds Tryd.pinned (.plain (OpenSpec.ofChange fnExactDskTextSpec)) fnExactDskTextCard

/-- THE SECOND FORM's CARD OF 'laws.FnExactDskText'. -/
def fnExactDskTextUptoCard : Claim7 := { stood := { row := fnExactDskTextUptoRow, standIns := [], harness := (true, "84df57eedd8b0faf7ce12216099f762c0e16a5633e1a903e5280e840a6790b26"), looks := false }, kinds := [], alts := [], laidByText := true, laidKinds := [.data, .data, .data, .data], laidTests := true, laidLooks := .later }
def FnExactDskTextUptoCardSaid : Prop := Claim7.holds Tryd.pinned (.plain (OpenSpec.upto fnExactDskTextSpec)) fnExactDskTextUptoCard
end Rows
end Go.Proofs.YtoglomfejgpoeaaDoor
