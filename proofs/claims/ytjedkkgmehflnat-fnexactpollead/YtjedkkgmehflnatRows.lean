/-
  No cell of these rows narrows 'for every input' (looked for: loops, veiled, ifaces, maps, wideKeys, modest, calm, conditions, laid).
  DERIVED. THE GIVEN ROWS OF THIS SEAT. 3 by the template 'for every input the law returns true; each argument reads behind the call as it read before'; 0 by the template 'total and deterministic' (their statements: YtjedkkgmehflnatTotals.lean).
  GIVEN WITH THE SEED: the statements are not yours to turn. If you find one false, say at which input.
  Laid BY PROGRAM, IN A SANDBOX (cutbox-rows.mjs): the forced cells as the released guide's own fill.sh prints them over the translation 6e7608a2e4445c28… (all of the seat's roots in one cut). By AI agents, Wed Nov 11 2026. No macro, syntax, notation, axiom, sorry.
-/
import Derived.Test.YtjedkkgmehflnatChecked
import GoSem.Claim
import GoSem.ClaimJoined
import GoSem.ClaimMapViews
import Derived.JoinedTies
import Derived.KernelRfl
namespace Go.Proofs.Ytjedkkgmehflnat
/- THE CELL 'sum', in the pinned program and in every row, IS THE sha256 OF THE DUMP (.gsa) THAT YtjedkkgmehflnatProg.lean LOADS. Nothing in Lean hashes anything: it is a label: what it is worth is what the hold of that sum in a sandbox is worth. -/
noncomputable def Try.pinned : Pinned := { name := "ytjedkkgmehflnat", sum := "6e7608a2e4445c282e496119ad56c91ed57c12214834293454a4610768d31b2a", checked := Try.checked }
namespace Rows
def none {H : Type} : Left H := { results := [], args := [] }

/-- 'laws.FnExactPolScale': WHATEVER THE INPUT: true; the input reads as it did. -/
def fnExactPolScaleSpec : ChangeSpec := { name := "fnExactPolScale", fn := fun _ => fun
  | [d1, d2] => { results := [.lit (.bool true)], args := [d1, d2] }
  | _ => none }
def fnExactPolScaleRow : OpenClaim := { program := "ytjedkkgmehflnat", sum := "6e7608a2e4445c282e496119ad56c91ed57c12214834293454a4610768d31b2a", func := "loop.example/selvedge/laws.FnExactPolScale", spec := "fnExactPolScale", apart := false }
def FnExactPolScaleSaid : Prop := fnExactPolScaleRow.holds Try.pinned (OpenSpec.ofChange fnExactPolScaleSpec)

/-- ITS FALSE NEIGHBOUR: 'it returns false'. Refute it at one input. -/
def fnExactPolScaleWrong : ChangeSpec := { name := "fnExactPolScale", fn := fun _ => fun
  | [d1, d2] => { results := [.lit (.bool false)], args := [d1, d2] }
  | _ => none }
def FnExactPolScaleWrongFalsely : Prop := fnExactPolScaleRow.holds Try.pinned (OpenSpec.ofChange fnExactPolScaleWrong)

/-- 'laws.FnExactPolLead': WHATEVER THE INPUT: true; the input reads as it did. -/
def fnExactPolLeadSpec : ChangeSpec := { name := "fnExactPolLead", fn := fun _ => fun
  | [d1, d2] => { results := [.lit (.bool true)], args := [d1, d2] }
  | _ => none }
def fnExactPolLeadRow : OpenClaim := { program := "ytjedkkgmehflnat", sum := "6e7608a2e4445c282e496119ad56c91ed57c12214834293454a4610768d31b2a", func := "loop.example/selvedge/laws.FnExactPolLead", spec := "fnExactPolLead", unfollowed := true, recurses := true, apart := false }
def FnExactPolLeadSaid : Prop := fnExactPolLeadRow.holds Try.pinned (OpenSpec.ofChange fnExactPolLeadSpec)

/-- ITS FALSE NEIGHBOUR: 'it returns false'. Refute it at one input. -/
def fnExactPolLeadWrong : ChangeSpec := { name := "fnExactPolLead", fn := fun _ => fun
  | [d1, d2] => { results := [.lit (.bool false)], args := [d1, d2] }
  | _ => none }
def FnExactPolLeadWrongFalsely : Prop := fnExactPolLeadRow.holds Try.pinned (OpenSpec.ofChange fnExactPolLeadWrong)

/-- 'laws.FnExactPolFree': WHATEVER THE INPUT: true; the input reads as it did. -/
def fnExactPolFreeSpec : ChangeSpec := { name := "fnExactPolFree", fn := fun _ => fun
  | [d] => { results := [.lit (.bool true)], args := [d] }
  | _ => none }
def fnExactPolFreeRow : OpenClaim := { program := "ytjedkkgmehflnat", sum := "6e7608a2e4445c282e496119ad56c91ed57c12214834293454a4610768d31b2a", func := "loop.example/selvedge/laws.FnExactPolFree", spec := "fnExactPolFree", apart := false }
def FnExactPolFreeSaid : Prop := fnExactPolFreeRow.holds Try.pinned (OpenSpec.ofChange fnExactPolFreeSpec)

/-- ITS FALSE NEIGHBOUR: 'it returns false'. Refute it at one input. -/
def fnExactPolFreeWrong : ChangeSpec := { name := "fnExactPolFree", fn := fun _ => fun
  | [d] => { results := [.lit (.bool false)], args := [d] }
  | _ => none }
def FnExactPolFreeWrongFalsely : Prop := fnExactPolFreeRow.holds Try.pinned (OpenSpec.ofChange fnExactPolFreeWrong)

/- THE SECOND FORM. 'bulk': how many values and letters a reading holds, each counted each time it is reached (what is shared counts as often as it is met; a slice's spare places count too). A statement '..UptoSaid' is the law's where the arguments, and the package variables that the reading takes, are together of bulk at most 1048576: NARROWER than '..Said'. Prove '..Said' where nothing that the law and all that it calls make is longer than what came in: it says more and counts as full. Else prove '..UptoSaid'. A law counts once. -/
mutual
def uptoBulk {H : Type} : DataW H → Nat
  | .lit (.string bytes) => bytes.length + 1
  | .lit _ => 1
  | .nil => 1
  | .ptr d => uptoBulk d + 1
  | .slice elems spare => uptoBulkAll elems + uptoBulkAll spare + 1
  | .agg parts => uptoBulkAll parts + 1
  | .iface _ d => uptoBulk d + 1
  | .map entries => uptoBulkEntries entries + 1
  | .held _ => 1
def uptoBulkAll {H : Type} : List (DataW H) → Nat
  | [] => 0
  | d :: r => uptoBulk d + uptoBulkAll r
def uptoBulkEntries {H : Type} : List (Lit × DataW H) → Nat
  | [] => 0
  | x :: r => uptoBulkEntry x + uptoBulkEntries r
def uptoBulkEntry {H : Type} : Lit × DataW H → Nat
  | (.string bytes, d) => bytes.length + uptoBulk d + 1
  | (_, d) => uptoBulk d + 1
 end
def uptoSmall : (H : Type) → List (DataW H) → Bool := fun _ ds => decide (uptoBulkAll ds ≤ 1048576)
def OpenSpec.upto (s : _root_.Go.ChangeSpec) : _root_.Go.OpenSpec := { _root_.Go.OpenSpec.ofChange s with cond := some uptoSmall }

/-- 'laws.FnExactPolScale', WHERE WHAT IT READS IS OF BULK AT MOST 1048576: true; the input reads as it did. -/
def fnExactPolScaleUptoRow : OpenClaim := { program := "ytjedkkgmehflnat", sum := "6e7608a2e4445c282e496119ad56c91ed57c12214834293454a4610768d31b2a", func := "loop.example/selvedge/laws.FnExactPolScale", spec := "fnExactPolScale", apart := false, narrowed := true }
def FnExactPolScaleUptoSaid : Prop := fnExactPolScaleUptoRow.holds Try.pinned (OpenSpec.upto fnExactPolScaleSpec)

/-- 'laws.FnExactPolLead', WHERE WHAT IT READS IS OF BULK AT MOST 1048576: true; the input reads as it did. -/
def fnExactPolLeadUptoRow : OpenClaim := { program := "ytjedkkgmehflnat", sum := "6e7608a2e4445c282e496119ad56c91ed57c12214834293454a4610768d31b2a", func := "loop.example/selvedge/laws.FnExactPolLead", spec := "fnExactPolLead", unfollowed := true, recurses := true, apart := false, narrowed := true }
def FnExactPolLeadUptoSaid : Prop := fnExactPolLeadUptoRow.holds Try.pinned (OpenSpec.upto fnExactPolLeadSpec)

/-- 'laws.FnExactPolFree', WHERE WHAT IT READS IS OF BULK AT MOST 1048576: true; the input reads as it did. -/
def fnExactPolFreeUptoRow : OpenClaim := { program := "ytjedkkgmehflnat", sum := "6e7608a2e4445c282e496119ad56c91ed57c12214834293454a4610768d31b2a", func := "loop.example/selvedge/laws.FnExactPolFree", spec := "fnExactPolFree", apart := false, narrowed := true }
def FnExactPolFreeUptoSaid : Prop := fnExactPolFreeUptoRow.holds Try.pinned (OpenSpec.upto fnExactPolFreeSpec)

end Rows
end Go.Proofs.Ytjedkkgmehflnat
