/-
  No cell of these rows narrows 'for every input' (looked for: loops, veiled, ifaces, maps, wideKeys, modest, calm, conditions, laid).
  DERIVED. THE GIVEN ROWS OF THIS SEAT. 6 by the template 'for every input the law returns true; each argument reads behind the call as it read before'; 0 by the template 'total and deterministic' (their statements: YtjedkkgmehflnarTotals.lean).
  GIVEN WITH THE SEED: the statements are not yours to turn. If you find one false, say at which input.
  Laid BY PROGRAM, IN A SANDBOX (cutbox-rows.mjs): the forced cells as the released guide's own fill.sh prints them over the translation f3da2e79b96ad782… (all of the seat's roots in one cut). By AI agents, Wed Nov 11 2026. No macro, syntax, notation, axiom, sorry.
-/
import Derived.Test.YtjedkkgmehflnarChecked
import GoSem.Claim
import GoSem.ClaimJoined
import GoSem.ClaimMapViews
import Derived.JoinedTies
import Derived.KernelRfl
namespace Go.Proofs.Ytjedkkgmehflnar
/- THE CELL 'sum', in the pinned program and in every row, IS THE sha256 OF THE DUMP (.gsa) THAT YtjedkkgmehflnarProg.lean LOADS. Nothing in Lean hashes anything: it is a label: what it is worth is what the hold of that sum in a sandbox is worth. -/
noncomputable def Try.pinned : Pinned := { name := "ytjedkkgmehflnar", sum := "f3da2e79b96ad782430752285b9fde57e0b1fdaf7a9b90237cd63e814886296f", checked := Try.checked }
namespace Rows
def none {H : Type} : Left H := { results := [], args := [] }

/-- 'laws.FnExactFldDiv': WHATEVER THE INPUT: true; the input reads as it did. -/
def fnExactFldDivSpec : ChangeSpec := { name := "fnExactFldDiv", fn := fun _ => fun
  | [d1, d2] => { results := [.lit (.bool true)], args := [d1, d2] }
  | _ => none }
def fnExactFldDivRow : OpenClaim := { program := "ytjedkkgmehflnar", sum := "f3da2e79b96ad782430752285b9fde57e0b1fdaf7a9b90237cd63e814886296f", func := "loop.example/selvedge/laws.FnExactFldDiv", spec := "fnExactFldDiv", apart := false }
def FnExactFldDivSaid : Prop := fnExactFldDivRow.holds Try.pinned (OpenSpec.ofChange fnExactFldDivSpec)

/-- ITS FALSE NEIGHBOUR: 'it returns false'. Refute it at one input. -/
def fnExactFldDivWrong : ChangeSpec := { name := "fnExactFldDiv", fn := fun _ => fun
  | [d1, d2] => { results := [.lit (.bool false)], args := [d1, d2] }
  | _ => none }
def FnExactFldDivWrongFalsely : Prop := fnExactFldDivRow.holds Try.pinned (OpenSpec.ofChange fnExactFldDivWrong)

/-- 'laws.FnExactMonOk': WHATEVER THE INPUT: true; the input reads as it did. -/
def fnExactMonOkSpec : ChangeSpec := { name := "fnExactMonOk", fn := fun _ => fun
  | [d] => { results := [.lit (.bool true)], args := [d] }
  | _ => none }
def fnExactMonOkRow : OpenClaim := { program := "ytjedkkgmehflnar", sum := "f3da2e79b96ad782430752285b9fde57e0b1fdaf7a9b90237cd63e814886296f", func := "loop.example/selvedge/laws.FnExactMonOk", spec := "fnExactMonOk", apart := false }
def FnExactMonOkSaid : Prop := fnExactMonOkRow.holds Try.pinned (OpenSpec.ofChange fnExactMonOkSpec)

/-- ITS FALSE NEIGHBOUR: 'it returns false'. Refute it at one input. -/
def fnExactMonOkWrong : ChangeSpec := { name := "fnExactMonOk", fn := fun _ => fun
  | [d] => { results := [.lit (.bool false)], args := [d] }
  | _ => none }
def FnExactMonOkWrongFalsely : Prop := fnExactMonOkRow.holds Try.pinned (OpenSpec.ofChange fnExactMonOkWrong)

/-- 'laws.FnExactMonDeg': WHATEVER THE INPUT: true; the input reads as it did. -/
def fnExactMonDegSpec : ChangeSpec := { name := "fnExactMonDeg", fn := fun _ => fun
  | [d] => { results := [.lit (.bool true)], args := [d] }
  | _ => none }
def fnExactMonDegRow : OpenClaim := { program := "ytjedkkgmehflnar", sum := "f3da2e79b96ad782430752285b9fde57e0b1fdaf7a9b90237cd63e814886296f", func := "loop.example/selvedge/laws.FnExactMonDeg", spec := "fnExactMonDeg", apart := false }
def FnExactMonDegSaid : Prop := fnExactMonDegRow.holds Try.pinned (OpenSpec.ofChange fnExactMonDegSpec)

/-- ITS FALSE NEIGHBOUR: 'it returns false'. Refute it at one input. -/
def fnExactMonDegWrong : ChangeSpec := { name := "fnExactMonDeg", fn := fun _ => fun
  | [d] => { results := [.lit (.bool false)], args := [d] }
  | _ => none }
def FnExactMonDegWrongFalsely : Prop := fnExactMonDegRow.holds Try.pinned (OpenSpec.ofChange fnExactMonDegWrong)

/-- 'laws.FnExactMonCmp': WHATEVER THE INPUT: true; the input reads as it did. -/
def fnExactMonCmpSpec : ChangeSpec := { name := "fnExactMonCmp", fn := fun _ => fun
  | [d1, d2, d3] => { results := [.lit (.bool true)], args := [d1, d2, d3] }
  | _ => none }
def fnExactMonCmpRow : OpenClaim := { program := "ytjedkkgmehflnar", sum := "f3da2e79b96ad782430752285b9fde57e0b1fdaf7a9b90237cd63e814886296f", func := "loop.example/selvedge/laws.FnExactMonCmp", spec := "fnExactMonCmp", unfollowed := true, recurses := true, apart := false }
def FnExactMonCmpSaid : Prop := fnExactMonCmpRow.holds Try.pinned (OpenSpec.ofChange fnExactMonCmpSpec)

/-- ITS FALSE NEIGHBOUR: 'it returns false'. Refute it at one input. -/
def fnExactMonCmpWrong : ChangeSpec := { name := "fnExactMonCmp", fn := fun _ => fun
  | [d1, d2, d3] => { results := [.lit (.bool false)], args := [d1, d2, d3] }
  | _ => none }
def FnExactMonCmpWrongFalsely : Prop := fnExactMonCmpRow.holds Try.pinned (OpenSpec.ofChange fnExactMonCmpWrong)

/-- 'laws.FnExactMonMul': WHATEVER THE INPUT: true; the input reads as it did. -/
def fnExactMonMulSpec : ChangeSpec := { name := "fnExactMonMul", fn := fun _ => fun
  | [d1, d2] => { results := [.lit (.bool true)], args := [d1, d2] }
  | _ => none }
def fnExactMonMulRow : OpenClaim := { program := "ytjedkkgmehflnar", sum := "f3da2e79b96ad782430752285b9fde57e0b1fdaf7a9b90237cd63e814886296f", func := "loop.example/selvedge/laws.FnExactMonMul", spec := "fnExactMonMul", apart := false }
def FnExactMonMulSaid : Prop := fnExactMonMulRow.holds Try.pinned (OpenSpec.ofChange fnExactMonMulSpec)

/-- ITS FALSE NEIGHBOUR: 'it returns false'. Refute it at one input. -/
def fnExactMonMulWrong : ChangeSpec := { name := "fnExactMonMul", fn := fun _ => fun
  | [d1, d2] => { results := [.lit (.bool false)], args := [d1, d2] }
  | _ => none }
def FnExactMonMulWrongFalsely : Prop := fnExactMonMulRow.holds Try.pinned (OpenSpec.ofChange fnExactMonMulWrong)

/-- 'laws.FnExactMonDivides': WHATEVER THE INPUT: true; the input reads as it did. -/
def fnExactMonDividesSpec : ChangeSpec := { name := "fnExactMonDivides", fn := fun _ => fun
  | [d1, d2] => { results := [.lit (.bool true)], args := [d1, d2] }
  | _ => none }
def fnExactMonDividesRow : OpenClaim := { program := "ytjedkkgmehflnar", sum := "f3da2e79b96ad782430752285b9fde57e0b1fdaf7a9b90237cd63e814886296f", func := "loop.example/selvedge/laws.FnExactMonDivides", spec := "fnExactMonDivides", apart := false }
def FnExactMonDividesSaid : Prop := fnExactMonDividesRow.holds Try.pinned (OpenSpec.ofChange fnExactMonDividesSpec)

/-- ITS FALSE NEIGHBOUR: 'it returns false'. Refute it at one input. -/
def fnExactMonDividesWrong : ChangeSpec := { name := "fnExactMonDivides", fn := fun _ => fun
  | [d1, d2] => { results := [.lit (.bool false)], args := [d1, d2] }
  | _ => none }
def FnExactMonDividesWrongFalsely : Prop := fnExactMonDividesRow.holds Try.pinned (OpenSpec.ofChange fnExactMonDividesWrong)

/- THE SECOND FORM. 'bulk': how many values and letters a reading holds, each counted each time it is reached (what is shared counts as often as it is met; a slice's spare places count too). A statement '..UptoSaid' is the law's where the arguments, and the package variables that the reading takes, are together of bulk at most 1048576: NARROWER than '..Said'. Prove '..Said' where nothing that the law and all that it calls make is longer than what came in: it says more and counts as full. Else prove '..UptoSaid'. A law counts once. -/
mutual
def uptoBulk {H : Type} : DataW H → Nat
  | .lit (.string bytes) => bytes.length + 1
  | .lit _ => 1
  | .nil => 1
  | .ptr d => uptoBulk d + 1
  | .slice elems spare => uptoBulkAll elems + uptoBulkAll spare + 1
  | .agg parts => uptoBulkAll parts + 1
  | .iface _ d => uptoBulk d + 1
  | .map entries => uptoBulkEntries entries + 1
  | .held _ => 1
def uptoBulkAll {H : Type} : List (DataW H) → Nat
  | [] => 0
  | d :: r => uptoBulk d + uptoBulkAll r
def uptoBulkEntries {H : Type} : List (Lit × DataW H) → Nat
  | [] => 0
  | x :: r => uptoBulkEntry x + uptoBulkEntries r
def uptoBulkEntry {H : Type} : Lit × DataW H → Nat
  | (.string bytes, d) => bytes.length + uptoBulk d + 1
  | (_, d) => uptoBulk d + 1
 end
def uptoSmall : (H : Type) → List (DataW H) → Bool := fun _ ds => decide (uptoBulkAll ds ≤ 1048576)
def OpenSpec.upto (s : _root_.Go.ChangeSpec) : _root_.Go.OpenSpec := { _root_.Go.OpenSpec.ofChange s with cond := some uptoSmall }

/-- 'laws.FnExactFldDiv', WHERE WHAT IT READS IS OF BULK AT MOST 1048576: true; the input reads as it did. -/
def fnExactFldDivUptoRow : OpenClaim := { program := "ytjedkkgmehflnar", sum := "f3da2e79b96ad782430752285b9fde57e0b1fdaf7a9b90237cd63e814886296f", func := "loop.example/selvedge/laws.FnExactFldDiv", spec := "fnExactFldDiv", apart := false, narrowed := true }
def FnExactFldDivUptoSaid : Prop := fnExactFldDivUptoRow.holds Try.pinned (OpenSpec.upto fnExactFldDivSpec)

/-- 'laws.FnExactMonOk', WHERE WHAT IT READS IS OF BULK AT MOST 1048576: true; the input reads as it did. -/
def fnExactMonOkUptoRow : OpenClaim := { program := "ytjedkkgmehflnar", sum := "f3da2e79b96ad782430752285b9fde57e0b1fdaf7a9b90237cd63e814886296f", func := "loop.example/selvedge/laws.FnExactMonOk", spec := "fnExactMonOk", apart := false, narrowed := true }
def FnExactMonOkUptoSaid : Prop := fnExactMonOkUptoRow.holds Try.pinned (OpenSpec.upto fnExactMonOkSpec)

/-- 'laws.FnExactMonDeg', WHERE WHAT IT READS IS OF BULK AT MOST 1048576: true; the input reads as it did. -/
def fnExactMonDegUptoRow : OpenClaim := { program := "ytjedkkgmehflnar", sum := "f3da2e79b96ad782430752285b9fde57e0b1fdaf7a9b90237cd63e814886296f", func := "loop.example/selvedge/laws.FnExactMonDeg", spec := "fnExactMonDeg", apart := false, narrowed := true }
def FnExactMonDegUptoSaid : Prop := fnExactMonDegUptoRow.holds Try.pinned (OpenSpec.upto fnExactMonDegSpec)

/-- 'laws.FnExactMonCmp', WHERE WHAT IT READS IS OF BULK AT MOST 1048576: true; the input reads as it did. -/
def fnExactMonCmpUptoRow : OpenClaim := { program := "ytjedkkgmehflnar", sum := "f3da2e79b96ad782430752285b9fde57e0b1fdaf7a9b90237cd63e814886296f", func := "loop.example/selvedge/laws.FnExactMonCmp", spec := "fnExactMonCmp", unfollowed := true, recurses := true, apart := false, narrowed := true }
def FnExactMonCmpUptoSaid : Prop := fnExactMonCmpUptoRow.holds Try.pinned (OpenSpec.upto fnExactMonCmpSpec)

/-- 'laws.FnExactMonMul', WHERE WHAT IT READS IS OF BULK AT MOST 1048576: true; the input reads as it did. -/
def fnExactMonMulUptoRow : OpenClaim := { program := "ytjedkkgmehflnar", sum := "f3da2e79b96ad782430752285b9fde57e0b1fdaf7a9b90237cd63e814886296f", func := "loop.example/selvedge/laws.FnExactMonMul", spec := "fnExactMonMul", apart := false, narrowed := true }
def FnExactMonMulUptoSaid : Prop := fnExactMonMulUptoRow.holds Try.pinned (OpenSpec.upto fnExactMonMulSpec)

/-- 'laws.FnExactMonDivides', WHERE WHAT IT READS IS OF BULK AT MOST 1048576: true; the input reads as it did. -/
def fnExactMonDividesUptoRow : OpenClaim := { program := "ytjedkkgmehflnar", sum := "f3da2e79b96ad782430752285b9fde57e0b1fdaf7a9b90237cd63e814886296f", func := "loop.example/selvedge/laws.FnExactMonDivides", spec := "fnExactMonDivides", apart := false, narrowed := true }
def FnExactMonDividesUptoSaid : Prop := fnExactMonDividesUptoRow.holds Try.pinned (OpenSpec.upto fnExactMonDividesSpec)

end Rows
end Go.Proofs.Ytjedkkgmehflnar
