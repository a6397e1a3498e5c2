/-
  DERIVED. GIVEN WITH THE SEED: THE CARDS: each row of YtnfgiplgkobnlaaGreatDoorRows.lean that lists a variable, with what it lists TIED to the program's text (the seventh form; the later family's looks); each row that meets fmt, with fmt's text TOLD by the authors' own Lean function (tested against real Go, not proved from fmt's source: count such statements apart). THE CARD IS WHAT COUNTS. Prove the row's statement (the work); the ties are given (YtnfgiplgkobnlaaGreatDoorTie.lean); close each card by the builder's one call (the guide's Derived/Test/ToyasCard.lean, 'card_holds'). Laid BY PROGRAM, IN A SANDBOX (cutbox-door.mjs). By AI agents, Wed Nov 11 2026. No macro, syntax, notation, axiom, sorry.
-/
import Derived.Test.YtnfgiplgkobnlaaGreatDoorRows
import GoSem.ClaimSeven
namespace Go.Proofs.YtnfgiplgkobnlaaGreatDoor
namespace Rows

/-- THE TIED CARD OF 'laws.FnPolText'. -/
def fnPolTextCard : Claim7 := { stood := { row := fnPolTextRow, standIns := [], harness := (true, "23eed74b110d71ee087ccff95142383867edcc4e57f4e7657efa101e98ab40c4"), looks := true }, kinds := [], alts := [], laidByText := true, laidKinds := [.data, .data, .data, .data, .sentinel, .sentinel, .pinned], laidTests := true, laidLooks := .later }
def FnPolTextCardSaid : Prop := Claim7.holds Tryz.pinned (.plain (OpenSpec.ofChange fnPolTextSpec)) fnPolTextCard

/-- THE TIED CARD OF 'laws.FnWylOne'. -/
def fnWylOneCard : Claim7 := { stood := { row := fnWylOneRow, standIns := [], harness := (true, "23eed74b110d71ee087ccff95142383867edcc4e57f4e7657efa101e98ab40c4"), looks := true }, kinds := [], alts := [], laidByText := true, laidKinds := [.data, .data, .data], laidTests := true, laidLooks := .later }
def FnWylOneCardSaid : Prop := Claim7.holds Tryz.pinned (.plain (OpenSpec.ofChange fnWylOneSpec)) fnWylOneCard

/-- THE SECOND FORM's CARD OF 'laws.FnPolText'. -/
def fnPolTextUptoCard : Claim7 := { stood := { row := fnPolTextUptoRow, standIns := [], harness := (true, "23eed74b110d71ee087ccff95142383867edcc4e57f4e7657efa101e98ab40c4"), looks := true }, kinds := [], alts := [], laidByText := true, laidKinds := [.data, .data, .data, .data, .sentinel, .sentinel, .pinned], laidTests := true, laidLooks := .later }
def FnPolTextUptoCardSaid : Prop := Claim7.holds Tryz.pinned (.plain (OpenSpec.upto fnPolTextSpec)) fnPolTextUptoCard

/-- THE SECOND FORM's CARD OF 'laws.FnWylOne'. -/
def fnWylOneUptoCard : Claim7 := { stood := { row := fnWylOneUptoRow, standIns := [], harness := (true, "23eed74b110d71ee087ccff95142383867edcc4e57f4e7657efa101e98ab40c4"), looks := true }, kinds := [], alts := [], laidByText := true, laidKinds := [.data, .data, .data], laidTests := true, laidLooks := .later }
def FnWylOneUptoCardSaid : Prop := Claim7.holds Tryz.pinned (.plain (OpenSpec.upto fnWylOneSpec)) fnWylOneUptoCard
end Rows
end Go.Proofs.YtnfgiplgkobnlaaGreatDoor
