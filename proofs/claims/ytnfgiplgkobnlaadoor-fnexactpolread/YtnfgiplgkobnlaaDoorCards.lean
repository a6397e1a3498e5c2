/-
  DERIVED. GIVEN WITH THE SEED: THE CARDS: each row of YtnfgiplgkobnlaaDoorRows.lean that lists a variable, with what it lists TIED to the program's text (the seventh form; the later family's looks); each row that meets fmt, with fmt's text TOLD by the authors' own Lean function (tested against real Go, not proved from fmt's source: count such statements apart). THE CARD IS WHAT COUNTS. Prove the row's statement (the work); the ties are given (YtnfgiplgkobnlaaDoorTie.lean); close each card by the builder's one call (the guide's Derived/Test/ToyasCard.lean, 'card_holds'). Laid BY PROGRAM, IN A SANDBOX (cutbox-door.mjs). By AI agents, Wed Nov 11 2026. No macro, syntax, notation, axiom, sorry.
-/
import Derived.Test.YtnfgiplgkobnlaaDoorRows
import GoSem.ClaimSeven
namespace Go.Proofs.YtnfgiplgkobnlaaDoor
namespace Rows

/-- THE TIED CARD OF 'laws.FnMonText'. -/
def fnMonTextCard : Claim7 := { stood := { row := fnMonTextRow, standIns := [], harness := (true, "aa44544bbd8d5d10b3ef3e5221c3ecc6159ba5dbc60aac88cf424bb8eb2e0f27"), looks := true }, kinds := [], alts := [], laidByText := true, laidKinds := [.data, .data, .data, .sentinel, .sentinel], laidTests := true, laidLooks := .later }
def FnMonTextCardSaid : Prop := Claim7.holds Tryd.pinned (.plain (OpenSpec.ofChange fnMonTextSpec)) fnMonTextCard

/-- THE TIED CARD OF 'laws.FnExactMonText'. -/
def fnExactMonTextCard : Claim7 := { stood := { row := fnExactMonTextRow, standIns := [], harness := (true, "aa44544bbd8d5d10b3ef3e5221c3ecc6159ba5dbc60aac88cf424bb8eb2e0f27"), looks := true }, kinds := [], alts := [], laidByText := true, laidKinds := [.data, .data, .data], laidTests := true, laidLooks := .later }
def FnExactMonTextCardSaid : Prop := Claim7.holds Tryd.pinned (.plain (OpenSpec.ofChange fnExactMonTextSpec)) fnExactMonTextCard

/-- THE TIED CARD OF 'laws.FnExactPolText'. -/
def fnExactPolTextCard : Claim7 := { stood := { row := fnExactPolTextRow, standIns := [], harness := (true, "aa44544bbd8d5d10b3ef3e5221c3ecc6159ba5dbc60aac88cf424bb8eb2e0f27"), looks := true }, kinds := [], alts := [], laidByText := true, laidKinds := [.data, .data, .data], laidTests := true, laidLooks := .later }
def FnExactPolTextCardSaid : Prop := Claim7.holds Tryd.pinned (.plain (OpenSpec.ofChange fnExactPolTextSpec)) fnExactPolTextCard

/-- THE TIED CARD OF 'laws.FnExactPolRead'. -/
def fnExactPolReadCard : Claim7 := { stood := { row := fnExactPolReadRow, standIns := [], harness := (true, "aa44544bbd8d5d10b3ef3e5221c3ecc6159ba5dbc60aac88cf424bb8eb2e0f27"), looks := true }, kinds := [], alts := [], laidByText := true, laidKinds := [.data, .data, .data, .data, .sentinel, .sentinel, .pinned], laidTests := true, laidLooks := .later }
def FnExactPolReadCardSaid : Prop := Claim7.holds Tryd.pinned (.plain (OpenSpec.ofChange fnExactPolReadSpec)) fnExactPolReadCard

/-- THE SECOND FORM's CARD OF 'laws.FnMonText'. -/
def fnMonTextUptoCard : Claim7 := { stood := { row := fnMonTextUptoRow, standIns := [], harness := (true, "aa44544bbd8d5d10b3ef3e5221c3ecc6159ba5dbc60aac88cf424bb8eb2e0f27"), looks := true }, kinds := [], alts := [], laidByText := true, laidKinds := [.data, .data, .data, .sentinel, .sentinel], laidTests := true, laidLooks := .later }
def FnMonTextUptoCardSaid : Prop := Claim7.holds Tryd.pinned (.plain (OpenSpec.upto fnMonTextSpec)) fnMonTextUptoCard

/-- THE SECOND FORM's CARD OF 'laws.FnExactMonText'. -/
def fnExactMonTextUptoCard : Claim7 := { stood := { row := fnExactMonTextUptoRow, standIns := [], harness := (true, "aa44544bbd8d5d10b3ef3e5221c3ecc6159ba5dbc60aac88cf424bb8eb2e0f27"), looks := true }, kinds := [], alts := [], laidByText := true, laidKinds := [.data, .data, .data], laidTests := true, laidLooks := .later }
def FnExactMonTextUptoCardSaid : Prop := Claim7.holds Tryd.pinned (.plain (OpenSpec.upto fnExactMonTextSpec)) fnExactMonTextUptoCard

/-- THE SECOND FORM's CARD OF 'laws.FnExactPolText'. -/
def fnExactPolTextUptoCard : Claim7 := { stood := { row := fnExactPolTextUptoRow, standIns := [], harness := (true, "aa44544bbd8d5d10b3ef3e5221c3ecc6159ba5dbc60aac88cf424bb8eb2e0f27"), looks := true }, kinds := [], alts := [], laidByText := true, laidKinds := [.data, .data, .data], laidTests := true, laidLooks := .later }
def FnExactPolTextUptoCardSaid : Prop := Claim7.holds Tryd.pinned (.plain (OpenSpec.upto fnExactPolTextSpec)) fnExactPolTextUptoCard

/-- THE SECOND FORM's CARD OF 'laws.FnExactPolRead'. -/
def fnExactPolReadUptoCard : Claim7 := { stood := { row := fnExactPolReadUptoRow, standIns := [], harness := (true, "aa44544bbd8d5d10b3ef3e5221c3ecc6159ba5dbc60aac88cf424bb8eb2e0f27"), looks := true }, kinds := [], alts := [], laidByText := true, laidKinds := [.data, .data, .data, .data, .sentinel, .sentinel, .pinned], laidTests := true, laidLooks := .later }
def FnExactPolReadUptoCardSaid : Prop := Claim7.holds Tryd.pinned (.plain (OpenSpec.upto fnExactPolReadSpec)) fnExactPolReadUptoCard
end Rows
end Go.Proofs.YtnfgiplgkobnlaaDoor
