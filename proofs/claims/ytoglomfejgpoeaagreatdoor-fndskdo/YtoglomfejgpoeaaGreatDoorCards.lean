/-
  DERIVED. GIVEN WITH THE SEED: THE CARDS: each row of YtoglomfejgpoeaaGreatDoorRows.lean that lists a variable, with what it lists TIED to the program's text (the seventh form; the later family's looks); each row that meets fmt, with fmt's text TOLD by the authors' own Lean function (tested against real Go, not proved from fmt's source: count such statements apart). THE CARD IS WHAT COUNTS. Prove the row's statement (the work); the ties are given (YtoglomfejgpoeaaGreatDoorTie.lean); close each card by the builder's one call (the guide's Derived/Test/ToyasCard.lean, 'card_holds'). Laid BY PROGRAM, IN A SANDBOX (cutbox-door.mjs). By AI agents, Wed Nov 11 2026. No macro, syntax, notation, axiom, sorry.
-/
import Derived.Test.YtoglomfejgpoeaaGreatDoorRows
import GoSem.ClaimSeven
namespace Go.Proofs.YtoglomfejgpoeaaGreatDoor
namespace Rows

/-- THE TIED CARD OF 'laws.FnExactDskRead'. -/
def fnExactDskReadCard : Claim7 := { stood := { row := fnExactDskReadRow, standIns := [], harness := (true, "67c52a635098217f5383dd671d3645febfbd83792c9456ddf36a10a293794907"), looks := true }, kinds := [], alts := [], laidByText := true, laidKinds := [.data, .data, .data, .data, .sentinel, .sentinel, .data, .pinned], laidTests := true, laidLooks := .later }
def FnExactDskReadCardSaid : Prop := Claim7.holds Tryz.pinned (.plain (OpenSpec.ofChange fnExactDskReadSpec)) fnExactDskReadCard

/-- THE TIED CARD OF 'laws.FnExactDskDo'. -/
def fnExactDskDoCard : Claim7 := { stood := { row := fnExactDskDoRow, standIns := [], harness := (true, "67c52a635098217f5383dd671d3645febfbd83792c9456ddf36a10a293794907"), looks := true }, kinds := [], alts := [], laidByText := true, laidKinds := [.data, .data, .data, .data], laidTests := true, laidLooks := .later }
def FnExactDskDoCardSaid : Prop := Claim7.holds Tryz.pinned (.plain (OpenSpec.ofChange fnExactDskDoSpec)) fnExactDskDoCard

/-- THE TIED CARD OF 'laws.FnExactDskRun'. -/
def fnExactDskRunCard : Claim7 := { stood := { row := fnExactDskRunRow, standIns := [], harness := (true, "67c52a635098217f5383dd671d3645febfbd83792c9456ddf36a10a293794907"), looks := true }, kinds := [], alts := [], laidByText := true, laidKinds := [.data, .data, .data, .data, .sentinel, .sentinel, .data, .pinned], laidTests := true, laidLooks := .later }
def FnExactDskRunCardSaid : Prop := Claim7.holds Tryz.pinned (.plain (OpenSpec.ofChange fnExactDskRunSpec)) fnExactDskRunCard

/-- THE TIED CARD OF 'laws.FnDskText'. -/
def fnDskTextCard : Claim7 := { stood := { row := fnDskTextRow, standIns := [], harness := (true, "67c52a635098217f5383dd671d3645febfbd83792c9456ddf36a10a293794907"), looks := true }, kinds := [], alts := [], laidByText := true, laidKinds := [.data, .data, .data, .data, .sentinel, .sentinel, .data, .pinned], laidTests := true, laidLooks := .later }
def FnDskTextCardSaid : Prop := Claim7.holds Tryz.pinned (.plain (OpenSpec.ofChange fnDskTextSpec)) fnDskTextCard

/-- THE TIED CARD OF 'laws.FnDskDo'. -/
def fnDskDoCard : Claim7 := { stood := { row := fnDskDoRow, standIns := [], harness := (true, "67c52a635098217f5383dd671d3645febfbd83792c9456ddf36a10a293794907"), looks := true }, kinds := [], alts := [], laidByText := true, laidKinds := [.data, .data, .data, .data], laidTests := true, laidLooks := .later }
def FnDskDoCardSaid : Prop := Claim7.holds Tryz.pinned (.plain (OpenSpec.ofChange fnDskDoSpec)) fnDskDoCard

/-- THE SECOND FORM's CARD OF 'laws.FnExactDskRead'. -/
def fnExactDskReadUptoCard : Claim7 := { stood := { row := fnExactDskReadUptoRow, standIns := [], harness := (true, "67c52a635098217f5383dd671d3645febfbd83792c9456ddf36a10a293794907"), looks := true }, kinds := [], alts := [], laidByText := true, laidKinds := [.data, .data, .data, .data, .sentinel, .sentinel, .data, .pinned], laidTests := true, laidLooks := .later }
def FnExactDskReadUptoCardSaid : Prop := Claim7.holds Tryz.pinned (.plain (OpenSpec.upto fnExactDskReadSpec)) fnExactDskReadUptoCard

/-- THE SECOND FORM's CARD OF 'laws.FnExactDskDo'. -/
def fnExactDskDoUptoCard : Claim7 := { stood := { row := fnExactDskDoUptoRow, standIns := [], harness := (true, "67c52a635098217f5383dd671d3645febfbd83792c9456ddf36a10a293794907"), looks := true }, kinds := [], alts := [], laidByText := true, laidKinds := [.data, .data, .data, .data], laidTests := true, laidLooks := .later }
def FnExactDskDoUptoCardSaid : Prop := Claim7.holds Tryz.pinned (.plain (OpenSpec.upto fnExactDskDoSpec)) fnExactDskDoUptoCard

/-- THE SECOND FORM's CARD OF 'laws.FnExactDskRun'. -/
def fnExactDskRunUptoCard : Claim7 := { stood := { row := fnExactDskRunUptoRow, standIns := [], harness := (true, "67c52a635098217f5383dd671d3645febfbd83792c9456ddf36a10a293794907"), looks := true }, kinds := [], alts := [], laidByText := true, laidKinds := [.data, .data, .data, .data, .sentinel, .sentinel, .data, .pinned], laidTests := true, laidLooks := .later }
def FnExactDskRunUptoCardSaid : Prop := Claim7.holds Tryz.pinned (.plain (OpenSpec.upto fnExactDskRunSpec)) fnExactDskRunUptoCard

/-- THE SECOND FORM's CARD OF 'laws.FnDskText'. -/
def fnDskTextUptoCard : Claim7 := { stood := { row := fnDskTextUptoRow, standIns := [], harness := (true, "67c52a635098217f5383dd671d3645febfbd83792c9456ddf36a10a293794907"), looks := true }, kinds := [], alts := [], laidByText := true, laidKinds := [.data, .data, .data, .data, .sentinel, .sentinel, .data, .pinned], laidTests := true, laidLooks := .later }
def FnDskTextUptoCardSaid : Prop := Claim7.holds Tryz.pinned (.plain (OpenSpec.upto fnDskTextSpec)) fnDskTextUptoCard

/-- THE SECOND FORM's CARD OF 'laws.FnDskDo'. -/
def fnDskDoUptoCard : Claim7 := { stood := { row := fnDskDoUptoRow, standIns := [], harness := (true, "67c52a635098217f5383dd671d3645febfbd83792c9456ddf36a10a293794907"), looks := true }, kinds := [], alts := [], laidByText := true, laidKinds := [.data, .data, .data, .data], laidTests := true, laidLooks := .later }
def FnDskDoUptoCardSaid : Prop := Claim7.holds Tryz.pinned (.plain (OpenSpec.upto fnDskDoSpec)) fnDskDoUptoCard
end Rows
end Go.Proofs.YtoglomfejgpoeaaGreatDoor
