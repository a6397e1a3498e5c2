/-
  No cell of these rows narrows 'for every input' (looked for: loops, veiled, ifaces, maps, wideKeys, modest, calm, conditions, laid).
  DERIVED. THE GIVEN ROWS OF THIS SEAT. 6 by the template 'for every input the law returns true; each argument reads behind the call as it read before'; 0 by the template 'total and deterministic' (their statements: YtfnlogmfkpaaiabTotals.lean).
  GIVEN WITH THE SEED: the statements are not yours to turn. If you find one false, say at which input.
  Laid BY PROGRAM, IN A SANDBOX (cutbox-rows.mjs): the forced cells as the released guide's own fill.sh prints them over the translation 27cec8745fe4f3b6… (all of the seat's roots in one cut). By AI agents, Wed Nov 11 2026. No macro, syntax, notation, axiom, sorry.
-/
import Derived.Test.YtfnlogmfkpaaiabChecked
import GoSem.Claim
import GoSem.ClaimJoined
import GoSem.ClaimMapViews
import Derived.JoinedTies
import Derived.KernelRfl
namespace Go.Proofs.Ytfnlogmfkpaaiab
/- THE CELL 'sum', in the pinned program and in every row, IS THE sha256 OF THE DUMP (.gsa) THAT YtfnlogmfkpaaiabProg.lean LOADS. Nothing in Lean hashes anything: it is a label: what it is worth is what the hold of that sum in a sandbox is worth. -/
noncomputable def Try.pinned : Pinned := { name := "ytfnlogmfkpaaiab", sum := "27cec8745fe4f3b6b31186bfe854e2d5fb865777b4b32cb2993354cde71e92fa", checked := Try.checked }
namespace Rows
def none {H : Type} : Left H := { results := [], args := [] }

/-- 'laws.FnFldChoose': WHATEVER THE INPUT: true; the input reads as it did. -/
def fnFldChooseSpec : ChangeSpec := { name := "fnFldChoose", fn := fun _ => fun
  | [d] => { results := [.lit (.bool true)], args := [d] }
  | _ => none }
def fnFldChooseRow : OpenClaim := { program := "ytfnlogmfkpaaiab", sum := "27cec8745fe4f3b6b31186bfe854e2d5fb865777b4b32cb2993354cde71e92fa", func := "loop.example/selvedge/laws.FnFldChoose", spec := "fnFldChoose", apart := false }
def FnFldChooseSaid : Prop := fnFldChooseRow.holds Try.pinned (OpenSpec.ofChange fnFldChooseSpec)

/-- ITS FALSE NEIGHBOUR: 'it returns false'. Refute it at one input. -/
def fnFldChooseWrong : ChangeSpec := { name := "fnFldChoose", fn := fun _ => fun
  | [d] => { results := [.lit (.bool false)], args := [d] }
  | _ => none }
def FnFldChooseWrongFalsely : Prop := fnFldChooseRow.holds Try.pinned (OpenSpec.ofChange fnFldChooseWrong)

/-- 'laws.FnMonCmp': WHATEVER THE INPUT: true; the input reads as it did. -/
def fnMonCmpSpec : ChangeSpec := { name := "fnMonCmp", fn := fun _ => fun
  | [d1, d2] => { results := [.lit (.bool true)], args := [d1, d2] }
  | _ => none }
def fnMonCmpRow : OpenClaim := { program := "ytfnlogmfkpaaiab", sum := "27cec8745fe4f3b6b31186bfe854e2d5fb865777b4b32cb2993354cde71e92fa", func := "loop.example/selvedge/laws.FnMonCmp", spec := "fnMonCmp", unfollowed := true, recurses := true, apart := false }
def FnMonCmpSaid : Prop := fnMonCmpRow.holds Try.pinned (OpenSpec.ofChange fnMonCmpSpec)

/-- ITS FALSE NEIGHBOUR: 'it returns false'. Refute it at one input. -/
def fnMonCmpWrong : ChangeSpec := { name := "fnMonCmp", fn := fun _ => fun
  | [d1, d2] => { results := [.lit (.bool false)], args := [d1, d2] }
  | _ => none }
def FnMonCmpWrongFalsely : Prop := fnMonCmpRow.holds Try.pinned (OpenSpec.ofChange fnMonCmpWrong)

/-- 'laws.FnMonKeeps': WHATEVER THE INPUT: true; the input reads as it did. -/
def fnMonKeepsSpec : ChangeSpec := { name := "fnMonKeeps", fn := fun _ => fun
  | [d1, d2] => { results := [.lit (.bool true)], args := [d1, d2] }
  | _ => none }
def fnMonKeepsRow : OpenClaim := { program := "ytfnlogmfkpaaiab", sum := "27cec8745fe4f3b6b31186bfe854e2d5fb865777b4b32cb2993354cde71e92fa", func := "loop.example/selvedge/laws.FnMonKeeps", spec := "fnMonKeeps", unfollowed := true, recurses := true, apart := false }
def FnMonKeepsSaid : Prop := fnMonKeepsRow.holds Try.pinned (OpenSpec.ofChange fnMonKeepsSpec)

/-- ITS FALSE NEIGHBOUR: 'it returns false'. Refute it at one input. -/
def fnMonKeepsWrong : ChangeSpec := { name := "fnMonKeeps", fn := fun _ => fun
  | [d1, d2] => { results := [.lit (.bool false)], args := [d1, d2] }
  | _ => none }
def FnMonKeepsWrongFalsely : Prop := fnMonKeepsRow.holds Try.pinned (OpenSpec.ofChange fnMonKeepsWrong)

/-- 'laws.FnMonMul': WHATEVER THE INPUT: true; the input reads as it did. -/
def fnMonMulSpec : ChangeSpec := { name := "fnMonMul", fn := fun _ => fun
  | [d] => { results := [.lit (.bool true)], args := [d] }
  | _ => none }
def fnMonMulRow : OpenClaim := { program := "ytfnlogmfkpaaiab", sum := "27cec8745fe4f3b6b31186bfe854e2d5fb865777b4b32cb2993354cde71e92fa", func := "loop.example/selvedge/laws.FnMonMul", spec := "fnMonMul", apart := false }
def FnMonMulSaid : Prop := fnMonMulRow.holds Try.pinned (OpenSpec.ofChange fnMonMulSpec)

/-- ITS FALSE NEIGHBOUR: 'it returns false'. Refute it at one input. -/
def fnMonMulWrong : ChangeSpec := { name := "fnMonMul", fn := fun _ => fun
  | [d] => { results := [.lit (.bool false)], args := [d] }
  | _ => none }
def FnMonMulWrongFalsely : Prop := fnMonMulRow.holds Try.pinned (OpenSpec.ofChange fnMonMulWrong)

/-- 'laws.FnMonOver': WHATEVER THE INPUT: true; the input reads as it did. -/
def fnMonOverSpec : ChangeSpec := { name := "fnMonOver", fn := fun _ => fun
  | [d] => { results := [.lit (.bool true)], args := [d] }
  | _ => none }
def fnMonOverRow : OpenClaim := { program := "ytfnlogmfkpaaiab", sum := "27cec8745fe4f3b6b31186bfe854e2d5fb865777b4b32cb2993354cde71e92fa", func := "loop.example/selvedge/laws.FnMonOver", spec := "fnMonOver", apart := false }
def FnMonOverSaid : Prop := fnMonOverRow.holds Try.pinned (OpenSpec.ofChange fnMonOverSpec)

/-- ITS FALSE NEIGHBOUR: 'it returns false'. Refute it at one input. -/
def fnMonOverWrong : ChangeSpec := { name := "fnMonOver", fn := fun _ => fun
  | [d] => { results := [.lit (.bool false)], args := [d] }
  | _ => none }
def FnMonOverWrongFalsely : Prop := fnMonOverRow.holds Try.pinned (OpenSpec.ofChange fnMonOverWrong)

/-- 'laws.FnMonDivides': WHATEVER THE INPUT: true; the input reads as it did. -/
def fnMonDividesSpec : ChangeSpec := { name := "fnMonDivides", fn := fun _ => fun
  | [d1, d2] => { results := [.lit (.bool true)], args := [d1, d2] }
  | _ => none }
def fnMonDividesRow : OpenClaim := { program := "ytfnlogmfkpaaiab", sum := "27cec8745fe4f3b6b31186bfe854e2d5fb865777b4b32cb2993354cde71e92fa", func := "loop.example/selvedge/laws.FnMonDivides", spec := "fnMonDivides", apart := false }
def FnMonDividesSaid : Prop := fnMonDividesRow.holds Try.pinned (OpenSpec.ofChange fnMonDividesSpec)

/-- ITS FALSE NEIGHBOUR: 'it returns false'. Refute it at one input. -/
def fnMonDividesWrong : ChangeSpec := { name := "fnMonDivides", fn := fun _ => fun
  | [d1, d2] => { results := [.lit (.bool false)], args := [d1, d2] }
  | _ => none }
def FnMonDividesWrongFalsely : Prop := fnMonDividesRow.holds Try.pinned (OpenSpec.ofChange fnMonDividesWrong)

/- THE SECOND FORM. 'bulk': how many values and letters a reading holds, each counted each time it is reached (what is shared counts as often as it is met; a slice's spare places count too). A statement '..UptoSaid' is the law's where the arguments, and the package variables that the reading takes, are together of bulk at most 1048576: NARROWER than '..Said'. Prove '..Said' where nothing that the law and all that it calls make is longer than what came in: it says more and counts as full. Else prove '..UptoSaid'. A law counts once. -/
mutual
def uptoBulk {H : Type} : DataW H → Nat
  | .lit (.string bytes) => bytes.length + 1
  | .lit _ => 1
  | .nil => 1
  | .ptr d => uptoBulk d + 1
  | .slice elems spare => uptoBulkAll elems + uptoBulkAll spare + 1
  | .agg parts => uptoBulkAll parts + 1
  | .iface _ d => uptoBulk d + 1
  | .map entries => uptoBulkEntries entries + 1
  | .held _ => 1
def uptoBulkAll {H : Type} : List (DataW H) → Nat
  | [] => 0
  | d :: r => uptoBulk d + uptoBulkAll r
def uptoBulkEntries {H : Type} : List (Lit × DataW H) → Nat
  | [] => 0
  | x :: r => uptoBulkEntry x + uptoBulkEntries r
def uptoBulkEntry {H : Type} : Lit × DataW H → Nat
  | (.string bytes, d) => bytes.length + uptoBulk d + 1
  | (_, d) => uptoBulk d + 1
 end
def uptoSmall : (H : Type) → List (DataW H) → Bool := fun _ ds => decide (uptoBulkAll ds ≤ 1048576)
def OpenSpec.upto (s : _root_.Go.ChangeSpec) : _root_.Go.OpenSpec := { _root_.Go.OpenSpec.ofChange s with cond := some uptoSmall }

/-- 'laws.FnFldChoose', WHERE WHAT IT READS IS OF BULK AT MOST 1048576: true; the input reads as it did. -/
def fnFldChooseUptoRow : OpenClaim := { program := "ytfnlogmfkpaaiab", sum := "27cec8745fe4f3b6b31186bfe854e2d5fb865777b4b32cb2993354cde71e92fa", func := "loop.example/selvedge/laws.FnFldChoose", spec := "fnFldChoose", apart := false, narrowed := true }
def FnFldChooseUptoSaid : Prop := fnFldChooseUptoRow.holds Try.pinned (OpenSpec.upto fnFldChooseSpec)

/-- 'laws.FnMonCmp', WHERE WHAT IT READS IS OF BULK AT MOST 1048576: true; the input reads as it did. -/
def fnMonCmpUptoRow : OpenClaim := { program := "ytfnlogmfkpaaiab", sum := "27cec8745fe4f3b6b31186bfe854e2d5fb865777b4b32cb2993354cde71e92fa", func := "loop.example/selvedge/laws.FnMonCmp", spec := "fnMonCmp", unfollowed := true, recurses := true, apart := false, narrowed := true }
def FnMonCmpUptoSaid : Prop := fnMonCmpUptoRow.holds Try.pinned (OpenSpec.upto fnMonCmpSpec)

/-- 'laws.FnMonKeeps', WHERE WHAT IT READS IS OF BULK AT MOST 1048576: true; the input reads as it did. -/
def fnMonKeepsUptoRow : OpenClaim := { program := "ytfnlogmfkpaaiab", sum := "27cec8745fe4f3b6b31186bfe854e2d5fb865777b4b32cb2993354cde71e92fa", func := "loop.example/selvedge/laws.FnMonKeeps", spec := "fnMonKeeps", unfollowed := true, recurses := true, apart := false, narrowed := true }
def FnMonKeepsUptoSaid : Prop := fnMonKeepsUptoRow.holds Try.pinned (OpenSpec.upto fnMonKeepsSpec)

/-- 'laws.FnMonMul', WHERE WHAT IT READS IS OF BULK AT MOST 1048576: true; the input reads as it did. -/
def fnMonMulUptoRow : OpenClaim := { program := "ytfnlogmfkpaaiab", sum := "27cec8745fe4f3b6b31186bfe854e2d5fb865777b4b32cb2993354cde71e92fa", func := "loop.example/selvedge/laws.FnMonMul", spec := "fnMonMul", apart := false, narrowed := true }
def FnMonMulUptoSaid : Prop := fnMonMulUptoRow.holds Try.pinned (OpenSpec.upto fnMonMulSpec)

/-- 'laws.FnMonOver', WHERE WHAT IT READS IS OF BULK AT MOST 1048576: true; the input reads as it did. -/
def fnMonOverUptoRow : OpenClaim := { program := "ytfnlogmfkpaaiab", sum := "27cec8745fe4f3b6b31186bfe854e2d5fb865777b4b32cb2993354cde71e92fa", func := "loop.example/selvedge/laws.FnMonOver", spec := "fnMonOver", apart := false, narrowed := true }
def FnMonOverUptoSaid : Prop := fnMonOverUptoRow.holds Try.pinned (OpenSpec.upto fnMonOverSpec)

/-- 'laws.FnMonDivides', WHERE WHAT IT READS IS OF BULK AT MOST 1048576: true; the input reads as it did. -/
def fnMonDividesUptoRow : OpenClaim := { program := "ytfnlogmfkpaaiab", sum := "27cec8745fe4f3b6b31186bfe854e2d5fb865777b4b32cb2993354cde71e92fa", func := "loop.example/selvedge/laws.FnMonDivides", spec := "fnMonDivides", apart := false, narrowed := true }
def FnMonDividesUptoSaid : Prop := fnMonDividesUptoRow.holds Try.pinned (OpenSpec.upto fnMonDividesSpec)

end Rows
end Go.Proofs.Ytfnlogmfkpaaiab
