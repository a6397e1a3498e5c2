/-
  No cell of these rows narrows 'for every input' (looked for: loops, veiled, ifaces, maps, wideKeys, modest, calm, conditions, laid).
  DERIVED. THE GIVEN ROWS OF THIS SEAT. 4 by the template 'for every input the law returns true; each argument reads behind the call as it read before'; 0 by the template 'total and deterministic' (their statements: YtfgmfgamkbgaiaaGreatTotals.lean).
  GIVEN WITH THE SEED: the statements are not yours to turn. If you find one false, say at which input.
  Laid BY PROGRAM, IN A SANDBOX (cutbox-rows.mjs): the forced cells as the released guide's own fill.sh prints them over the translation d5767ee4b51053a9… (all of the seat's roots in one cut). By AI agents, Wed Nov 11 2026. No macro, syntax, notation, axiom, sorry.
-/
import Derived.Test.YtfgmfgamkbgaiaaGreatChecked
import GoSem.Claim
import GoSem.ClaimJoined
import GoSem.ClaimMapViews
import Derived.JoinedTies
import Derived.KernelRfl
namespace Go.Proofs.YtfgmfgamkbgaiaaGreat
/- THE CELL 'sum', in the pinned program and in every row, IS THE sha256 OF THE DUMP (.gsa) THAT YtfgmfgamkbgaiaaGreatProg.lean LOADS. Nothing in Lean hashes anything: it is a label: what it is worth is what the hold of that sum in a sandbox is worth. -/
noncomputable def Tryz.pinned : Pinned := { name := "ytfgmfgamkbgaiaagreat", sum := "d5767ee4b51053a91b042bda35cc3b6eb9789a247853cb81dc2f9fd5a01533ef", checked := Tryz.checked }
namespace Rows
def none {H : Type} : Left H := { results := [], args := [] }

/-- 'laws.FnRedAll': WHATEVER THE INPUT: true; the input reads as it did. -/
def fnRedAllSpec : ChangeSpec := { name := "fnRedAll", fn := fun _ => fun
  | [d] => { results := [.lit (.bool true)], args := [d] }
  | _ => none }
def fnRedAllRow : OpenClaim := { program := "ytfgmfgamkbgaiaagreat", sum := "d5767ee4b51053a91b042bda35cc3b6eb9789a247853cb81dc2f9fd5a01533ef", func := "loop.example/selvedge/laws.FnRedAll", spec := "fnRedAll", unfollowed := true, recurses := true, plainKeys := false, apart := false }
def FnRedAllSaid : Prop := fnRedAllRow.holds Tryz.pinned (OpenSpec.ofChange fnRedAllSpec)

/-- ITS FALSE NEIGHBOUR: 'it returns false'. Refute it at one input. -/
def fnRedAllWrong : ChangeSpec := { name := "fnRedAll", fn := fun _ => fun
  | [d] => { results := [.lit (.bool false)], args := [d] }
  | _ => none }
def FnRedAllWrongFalsely : Prop := fnRedAllRow.holds Tryz.pinned (OpenSpec.ofChange fnRedAllWrong)

/-- 'laws.FnRedLead': WHATEVER THE INPUT: true; the input reads as it did. -/
def fnRedLeadSpec : ChangeSpec := { name := "fnRedLead", fn := fun _ => fun
  | [d] => { results := [.lit (.bool true)], args := [d] }
  | _ => none }
def fnRedLeadRow : OpenClaim := { program := "ytfgmfgamkbgaiaagreat", sum := "d5767ee4b51053a91b042bda35cc3b6eb9789a247853cb81dc2f9fd5a01533ef", func := "loop.example/selvedge/laws.FnRedLead", spec := "fnRedLead", unfollowed := true, recurses := true, plainKeys := false, apart := false }
def FnRedLeadSaid : Prop := fnRedLeadRow.holds Tryz.pinned (OpenSpec.ofChange fnRedLeadSpec)

/-- ITS FALSE NEIGHBOUR: 'it returns false'. Refute it at one input. -/
def fnRedLeadWrong : ChangeSpec := { name := "fnRedLead", fn := fun _ => fun
  | [d] => { results := [.lit (.bool false)], args := [d] }
  | _ => none }
def FnRedLeadWrongFalsely : Prop := fnRedLeadRow.holds Tryz.pinned (OpenSpec.ofChange fnRedLeadWrong)

/-- 'laws.FnRedTwice': WHATEVER THE INPUT: true; the input reads as it did. -/
def fnRedTwiceSpec : ChangeSpec := { name := "fnRedTwice", fn := fun _ => fun
  | [d] => { results := [.lit (.bool true)], args := [d] }
  | _ => none }
def fnRedTwiceRow : OpenClaim := { program := "ytfgmfgamkbgaiaagreat", sum := "d5767ee4b51053a91b042bda35cc3b6eb9789a247853cb81dc2f9fd5a01533ef", func := "loop.example/selvedge/laws.FnRedTwice", spec := "fnRedTwice", unfollowed := true, recurses := true, plainKeys := false, apart := false }
def FnRedTwiceSaid : Prop := fnRedTwiceRow.holds Tryz.pinned (OpenSpec.ofChange fnRedTwiceSpec)

/-- ITS FALSE NEIGHBOUR: 'it returns false'. Refute it at one input. -/
def fnRedTwiceWrong : ChangeSpec := { name := "fnRedTwice", fn := fun _ => fun
  | [d] => { results := [.lit (.bool false)], args := [d] }
  | _ => none }
def FnRedTwiceWrongFalsely : Prop := fnRedTwiceRow.holds Tryz.pinned (OpenSpec.ofChange fnRedTwiceWrong)

/-- 'laws.FnRedScale': WHATEVER THE INPUT: true; the input reads as it did. -/
def fnRedScaleSpec : ChangeSpec := { name := "fnRedScale", fn := fun _ => fun
  | [d] => { results := [.lit (.bool true)], args := [d] }
  | _ => none }
def fnRedScaleRow : OpenClaim := { program := "ytfgmfgamkbgaiaagreat", sum := "d5767ee4b51053a91b042bda35cc3b6eb9789a247853cb81dc2f9fd5a01533ef", func := "loop.example/selvedge/laws.FnRedScale", spec := "fnRedScale", unfollowed := true, recurses := true, plainKeys := false, apart := false }
def FnRedScaleSaid : Prop := fnRedScaleRow.holds Tryz.pinned (OpenSpec.ofChange fnRedScaleSpec)

/-- ITS FALSE NEIGHBOUR: 'it returns false'. Refute it at one input. -/
def fnRedScaleWrong : ChangeSpec := { name := "fnRedScale", fn := fun _ => fun
  | [d] => { results := [.lit (.bool false)], args := [d] }
  | _ => none }
def FnRedScaleWrongFalsely : Prop := fnRedScaleRow.holds Tryz.pinned (OpenSpec.ofChange fnRedScaleWrong)

/- THE SECOND FORM. 'bulk': how many values and letters a reading holds, each counted each time it is reached (what is shared counts as often as it is met; a slice's spare places count too). A statement '..UptoSaid' is the law's where the arguments, and the package variables that the reading takes, are together of bulk at most 1048576: NARROWER than '..Said'. Prove '..Said' where nothing that the law and all that it calls make is longer than what came in: it says more and counts as full. Else prove '..UptoSaid'. A law counts once. -/
mutual
def uptoBulk {H : Type} : DataW H → Nat
  | .lit (.string bytes) => bytes.length + 1
  | .lit _ => 1
  | .nil => 1
  | .ptr d => uptoBulk d + 1
  | .slice elems spare => uptoBulkAll elems + uptoBulkAll spare + 1
  | .agg parts => uptoBulkAll parts + 1
  | .iface _ d => uptoBulk d + 1
  | .map entries => uptoBulkEntries entries + 1
  | .held _ => 1
def uptoBulkAll {H : Type} : List (DataW H) → Nat
  | [] => 0
  | d :: r => uptoBulk d + uptoBulkAll r
def uptoBulkEntries {H : Type} : List (Lit × DataW H) → Nat
  | [] => 0
  | x :: r => uptoBulkEntry x + uptoBulkEntries r
def uptoBulkEntry {H : Type} : Lit × DataW H → Nat
  | (.string bytes, d) => bytes.length + uptoBulk d + 1
  | (_, d) => uptoBulk d + 1
 end
def uptoSmall : (H : Type) → List (DataW H) → Bool := fun _ ds => decide (uptoBulkAll ds ≤ 1048576)
def OpenSpec.upto (s : _root_.Go.ChangeSpec) : _root_.Go.OpenSpec := { _root_.Go.OpenSpec.ofChange s with cond := some uptoSmall }

/-- 'laws.FnRedAll', WHERE WHAT IT READS IS OF BULK AT MOST 1048576: true; the input reads as it did. -/
def fnRedAllUptoRow : OpenClaim := { program := "ytfgmfgamkbgaiaagreat", sum := "d5767ee4b51053a91b042bda35cc3b6eb9789a247853cb81dc2f9fd5a01533ef", func := "loop.example/selvedge/laws.FnRedAll", spec := "fnRedAll", unfollowed := true, recurses := true, plainKeys := false, apart := false, narrowed := true }
def FnRedAllUptoSaid : Prop := fnRedAllUptoRow.holds Tryz.pinned (OpenSpec.upto fnRedAllSpec)

/-- 'laws.FnRedLead', WHERE WHAT IT READS IS OF BULK AT MOST 1048576: true; the input reads as it did. -/
def fnRedLeadUptoRow : OpenClaim := { program := "ytfgmfgamkbgaiaagreat", sum := "d5767ee4b51053a91b042bda35cc3b6eb9789a247853cb81dc2f9fd5a01533ef", func := "loop.example/selvedge/laws.FnRedLead", spec := "fnRedLead", unfollowed := true, recurses := true, plainKeys := false, apart := false, narrowed := true }
def FnRedLeadUptoSaid : Prop := fnRedLeadUptoRow.holds Tryz.pinned (OpenSpec.upto fnRedLeadSpec)

/-- 'laws.FnRedTwice', WHERE WHAT IT READS IS OF BULK AT MOST 1048576: true; the input reads as it did. -/
def fnRedTwiceUptoRow : OpenClaim := { program := "ytfgmfgamkbgaiaagreat", sum := "d5767ee4b51053a91b042bda35cc3b6eb9789a247853cb81dc2f9fd5a01533ef", func := "loop.example/selvedge/laws.FnRedTwice", spec := "fnRedTwice", unfollowed := true, recurses := true, plainKeys := false, apart := false, narrowed := true }
def FnRedTwiceUptoSaid : Prop := fnRedTwiceUptoRow.holds Tryz.pinned (OpenSpec.upto fnRedTwiceSpec)

/-- 'laws.FnRedScale', WHERE WHAT IT READS IS OF BULK AT MOST 1048576: true; the input reads as it did. -/
def fnRedScaleUptoRow : OpenClaim := { program := "ytfgmfgamkbgaiaagreat", sum := "d5767ee4b51053a91b042bda35cc3b6eb9789a247853cb81dc2f9fd5a01533ef", func := "loop.example/selvedge/laws.FnRedScale", spec := "fnRedScale", unfollowed := true, recurses := true, plainKeys := false, apart := false, narrowed := true }
def FnRedScaleUptoSaid : Prop := fnRedScaleUptoRow.holds Tryz.pinned (OpenSpec.upto fnRedScaleSpec)

end Rows
end Go.Proofs.YtfgmfgamkbgaiaaGreat
