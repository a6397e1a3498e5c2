/-
  DERIVED. GIVEN WITH THE SEED: THE CARDS: each row of YtkcmamepoplcdaaGreatDoorRows.lean that lists a variable, with what it lists TIED to the program's text (the seventh form; the later family's looks); each row that meets fmt, with fmt's text TOLD by the authors' own Lean function (tested against real Go, not proved from fmt's source: count such statements apart). THE CARD IS WHAT COUNTS. Prove the row's statement (the work); the ties are given (YtkcmamepoplcdaaGreatDoorTie.lean); close each card by the builder's one call (the guide's Derived/Test/ToyasCard.lean, 'card_holds'). Laid BY PROGRAM, IN A SANDBOX (cutbox-door.mjs). By AI agents, Wed Nov 11 2026. No macro, syntax, notation, axiom, sorry.
-/
import Derived.Test.YtkcmamepoplcdaaGreatDoorRows
import GoSem.ClaimSeven
namespace Go.Proofs.YtkcmamepoplcdaaGreatDoor
namespace Rows

/-- THE TIED CARD OF 'laws.FnExactDskRead'. -/
def fnExactDskReadCard : Claim7 := { stood := { row := fnExactDskReadRow, standIns := [], harness := (true, "fdb72c40b2a69ce8138e6bd794d9bb92a7841007706cbb25f9a612a2ce6b704c"), looks := true }, kinds := [], alts := [], laidByText := true, laidKinds := [.data, .data, .data, .data, .sentinel, .sentinel, .data, .pinned], laidTests := true, laidLooks := .later }
def FnExactDskReadCardSaid : Prop := Claim7.holds Tryz.pinned (.plain (OpenSpec.ofChange fnExactDskReadSpec)) fnExactDskReadCard

/-- THE TIED CARD OF 'laws.FnExactDskRun'. -/
def fnExactDskRunCard : Claim7 := { stood := { row := fnExactDskRunRow, standIns := [], harness := (true, "fdb72c40b2a69ce8138e6bd794d9bb92a7841007706cbb25f9a612a2ce6b704c"), looks := true }, kinds := [], alts := [], laidByText := true, laidKinds := [.data, .data, .data, .data, .sentinel, .sentinel, .data, .pinned], laidTests := true, laidLooks := .later }
def FnExactDskRunCardSaid : Prop := Claim7.holds Tryz.pinned (.plain (OpenSpec.ofChange fnExactDskRunSpec)) fnExactDskRunCard

/-- THE TIED CARD OF 'laws.FnDskText'. -/
def fnDskTextCard : Claim7 := { stood := { row := fnDskTextRow, standIns := [], harness := (true, "fdb72c40b2a69ce8138e6bd794d9bb92a7841007706cbb25f9a612a2ce6b704c"), looks := true }, kinds := [], alts := [], laidByText := true, laidKinds := [.data, .data, .data, .data, .sentinel, .sentinel, .data, .pinned], laidTests := true, laidLooks := .later }
def FnDskTextCardSaid : Prop := Claim7.holds Tryz.pinned (.plain (OpenSpec.ofChange fnDskTextSpec)) fnDskTextCard

/-- THE TIED CARD OF 'laws.FnDskRun'. -/
def fnDskRunCard : Claim7 := { stood := { row := fnDskRunRow, standIns := [], harness := (true, "fdb72c40b2a69ce8138e6bd794d9bb92a7841007706cbb25f9a612a2ce6b704c"), looks := true }, kinds := [], alts := [], laidByText := true, laidKinds := [.data, .data, .data, .data, .sentinel, .sentinel, .data, .pinned], laidTests := true, laidLooks := .later }
def FnDskRunCardSaid : Prop := Claim7.holds Tryz.pinned (.plain (OpenSpec.ofChange fnDskRunSpec)) fnDskRunCard

/-- THE TIED CARD OF 'laws.FnDskShow'. -/
def fnDskShowCard : Claim7 := { stood := { row := fnDskShowRow, standIns := [], harness := (true, "fdb72c40b2a69ce8138e6bd794d9bb92a7841007706cbb25f9a612a2ce6b704c"), looks := true }, kinds := [], alts := [], laidByText := true, laidKinds := [.data, .data, .data, .data, .sentinel, .sentinel, .data, .pinned], laidTests := true, laidLooks := .later }
def FnDskShowCardSaid : Prop := Claim7.holds Tryz.pinned (.plain (OpenSpec.ofChange fnDskShowSpec)) fnDskShowCard

/-- THE SECOND FORM's CARD OF 'laws.FnExactDskRead'. -/
def fnExactDskReadUptoCard : Claim7 := { stood := { row := fnExactDskReadUptoRow, standIns := [], harness := (true, "fdb72c40b2a69ce8138e6bd794d9bb92a7841007706cbb25f9a612a2ce6b704c"), looks := true }, kinds := [], alts := [], laidByText := true, laidKinds := [.data, .data, .data, .data, .sentinel, .sentinel, .data, .pinned], laidTests := true, laidLooks := .later }
def FnExactDskReadUptoCardSaid : Prop := Claim7.holds Tryz.pinned (.plain (OpenSpec.upto fnExactDskReadSpec)) fnExactDskReadUptoCard

/-- THE SECOND FORM's CARD OF 'laws.FnExactDskRun'. -/
def fnExactDskRunUptoCard : Claim7 := { stood := { row := fnExactDskRunUptoRow, standIns := [], harness := (true, "fdb72c40b2a69ce8138e6bd794d9bb92a7841007706cbb25f9a612a2ce6b704c"), looks := true }, kinds := [], alts := [], laidByText := true, laidKinds := [.data, .data, .data, .data, .sentinel, .sentinel, .data, .pinned], laidTests := true, laidLooks := .later }
def FnExactDskRunUptoCardSaid : Prop := Claim7.holds Tryz.pinned (.plain (OpenSpec.upto fnExactDskRunSpec)) fnExactDskRunUptoCard

/-- THE SECOND FORM's CARD OF 'laws.FnDskText'. -/
def fnDskTextUptoCard : Claim7 := { stood := { row := fnDskTextUptoRow, standIns := [], harness := (true, "fdb72c40b2a69ce8138e6bd794d9bb92a7841007706cbb25f9a612a2ce6b704c"), looks := true }, kinds := [], alts := [], laidByText := true, laidKinds := [.data, .data, .data, .data, .sentinel, .sentinel, .data, .pinned], laidTests := true, laidLooks := .later }
def FnDskTextUptoCardSaid : Prop := Claim7.holds Tryz.pinned (.plain (OpenSpec.upto fnDskTextSpec)) fnDskTextUptoCard

/-- THE SECOND FORM's CARD OF 'laws.FnDskRun'. -/
def fnDskRunUptoCard : Claim7 := { stood := { row := fnDskRunUptoRow, standIns := [], harness := (true, "fdb72c40b2a69ce8138e6bd794d9bb92a7841007706cbb25f9a612a2ce6b704c"), looks := true }, kinds := [], alts := [], laidByText := true, laidKinds := [.data, .data, .data, .data, .sentinel, .sentinel, .data, .pinned], laidTests := true, laidLooks := .later }
def FnDskRunUptoCardSaid : Prop := Claim7.holds Tryz.pinned (.plain (OpenSpec.upto fnDskRunSpec)) fnDskRunUptoCard

/-- THE SECOND FORM's CARD OF 'laws.FnDskShow'. -/
def fnDskShowUptoCard : Claim7 := { stood := { row := fnDskShowUptoRow, standIns := [], harness := (true, "fdb72c40b2a69ce8138e6bd794d9bb92a7841007706cbb25f9a612a2ce6b704c"), looks := true }, kinds := [], alts := [], laidByText := true, laidKinds := [.data, .data, .data, .data, .sentinel, .sentinel, .data, .pinned], laidTests := true, laidLooks := .later }
def FnDskShowUptoCardSaid : Prop := Claim7.holds Tryz.pinned (.plain (OpenSpec.upto fnDskShowSpec)) fnDskShowUptoCard
end Rows
end Go.Proofs.YtkcmamepoplcdaaGreatDoor
