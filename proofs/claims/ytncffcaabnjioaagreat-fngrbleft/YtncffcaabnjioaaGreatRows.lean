/-
  No cell of these rows narrows 'for every input' (looked for: loops, veiled, ifaces, maps, wideKeys, modest, calm, conditions, laid).
  DERIVED. THE GIVEN ROWS OF THIS SEAT. 6 by the template 'for every input the law returns true; each argument reads behind the call as it read before'; 0 by the template 'total and deterministic' (their statements: YtncffcaabnjioaaGreatTotals.lean).
  GIVEN WITH THE SEED: the statements are not yours to turn. If you find one false, say at which input.
  Laid BY PROGRAM, IN A SANDBOX (cutbox-rows.mjs): the forced cells as the released guide's own fill.sh prints them over the translation 9c7bc36a97161fc4… (all of the seat's roots in one cut). By AI agents, Wed Nov 11 2026. No macro, syntax, notation, axiom, sorry.
-/
import Derived.Test.YtncffcaabnjioaaGreatChecked
import GoSem.Claim
import GoSem.ClaimJoined
import GoSem.ClaimMapViews
import Derived.JoinedTies
import Derived.KernelRfl
namespace Go.Proofs.YtncffcaabnjioaaGreat
/- THE CELL 'sum', in the pinned program and in every row, IS THE sha256 OF THE DUMP (.gsa) THAT YtncffcaabnjioaaGreatProg.lean LOADS. Nothing in Lean hashes anything: it is a label: what it is worth is what the hold of that sum in a sandbox is worth. -/
noncomputable def Tryz.pinned : Pinned := { name := "ytncffcaabnjioaagreat", sum := "9c7bc36a97161fc46059ce833548f5f1dc74f1aa3ebf8e2ea3c2dbeadf4c9e83", checked := Tryz.checked }
namespace Rows
def none {H : Type} : Left H := { results := [], args := [] }

/-- 'laws.FnGrbIn': WHATEVER THE INPUT: true; the input reads as it did. -/
def fnGrbInSpec : ChangeSpec := { name := "fnGrbIn", fn := fun _ => fun
  | [d1, d2] => { results := [.lit (.bool true)], args := [d1, d2] }
  | _ => none }
def fnGrbInRow : OpenClaim := { program := "ytncffcaabnjioaagreat", sum := "9c7bc36a97161fc46059ce833548f5f1dc74f1aa3ebf8e2ea3c2dbeadf4c9e83", func := "loop.example/selvedge/laws.FnGrbIn", spec := "fnGrbIn", unfollowed := true, recurses := true, plainKeys := false, apart := false }
def FnGrbInSaid : Prop := fnGrbInRow.holds Tryz.pinned (OpenSpec.ofChange fnGrbInSpec)

/-- ITS FALSE NEIGHBOUR: 'it returns false'. Refute it at one input. -/
def fnGrbInWrong : ChangeSpec := { name := "fnGrbIn", fn := fun _ => fun
  | [d1, d2] => { results := [.lit (.bool false)], args := [d1, d2] }
  | _ => none }
def FnGrbInWrongFalsely : Prop := fnGrbInRow.holds Tryz.pinned (OpenSpec.ofChange fnGrbInWrong)

/-- 'laws.FnGrbTell': WHATEVER THE INPUT: true; the input reads as it did. -/
def fnGrbTellSpec : ChangeSpec := { name := "fnGrbTell", fn := fun _ => fun
  | [d1, d2] => { results := [.lit (.bool true)], args := [d1, d2] }
  | _ => none }
def fnGrbTellRow : OpenClaim := { program := "ytncffcaabnjioaagreat", sum := "9c7bc36a97161fc46059ce833548f5f1dc74f1aa3ebf8e2ea3c2dbeadf4c9e83", func := "loop.example/selvedge/laws.FnGrbTell", spec := "fnGrbTell", unfollowed := true, recurses := true, plainKeys := false, apart := false }
def FnGrbTellSaid : Prop := fnGrbTellRow.holds Tryz.pinned (OpenSpec.ofChange fnGrbTellSpec)

/-- ITS FALSE NEIGHBOUR: 'it returns false'. Refute it at one input. -/
def fnGrbTellWrong : ChangeSpec := { name := "fnGrbTell", fn := fun _ => fun
  | [d1, d2] => { results := [.lit (.bool false)], args := [d1, d2] }
  | _ => none }
def FnGrbTellWrongFalsely : Prop := fnGrbTellRow.holds Tryz.pinned (OpenSpec.ofChange fnGrbTellWrong)

/-- 'laws.FnGrbLeast': WHATEVER THE INPUT: true; the input reads as it did. -/
def fnGrbLeastSpec : ChangeSpec := { name := "fnGrbLeast", fn := fun _ => fun
  | [d] => { results := [.lit (.bool true)], args := [d] }
  | _ => none }
def fnGrbLeastRow : OpenClaim := { program := "ytncffcaabnjioaagreat", sum := "9c7bc36a97161fc46059ce833548f5f1dc74f1aa3ebf8e2ea3c2dbeadf4c9e83", func := "loop.example/selvedge/laws.FnGrbLeast", spec := "fnGrbLeast", unfollowed := true, recurses := true, plainKeys := false, apart := false }
def FnGrbLeastSaid : Prop := fnGrbLeastRow.holds Tryz.pinned (OpenSpec.ofChange fnGrbLeastSpec)

/-- ITS FALSE NEIGHBOUR: 'it returns false'. Refute it at one input. -/
def fnGrbLeastWrong : ChangeSpec := { name := "fnGrbLeast", fn := fun _ => fun
  | [d] => { results := [.lit (.bool false)], args := [d] }
  | _ => none }
def FnGrbLeastWrongFalsely : Prop := fnGrbLeastRow.holds Tryz.pinned (OpenSpec.ofChange fnGrbLeastWrong)

/-- 'laws.FnGrbWhole': WHATEVER THE INPUT: true; the input reads as it did. -/
def fnGrbWholeSpec : ChangeSpec := { name := "fnGrbWhole", fn := fun _ => fun
  | [d] => { results := [.lit (.bool true)], args := [d] }
  | _ => none }
def fnGrbWholeRow : OpenClaim := { program := "ytncffcaabnjioaagreat", sum := "9c7bc36a97161fc46059ce833548f5f1dc74f1aa3ebf8e2ea3c2dbeadf4c9e83", func := "loop.example/selvedge/laws.FnGrbWhole", spec := "fnGrbWhole", unfollowed := true, recurses := true, plainKeys := false, apart := false }
def FnGrbWholeSaid : Prop := fnGrbWholeRow.holds Tryz.pinned (OpenSpec.ofChange fnGrbWholeSpec)

/-- ITS FALSE NEIGHBOUR: 'it returns false'. Refute it at one input. -/
def fnGrbWholeWrong : ChangeSpec := { name := "fnGrbWhole", fn := fun _ => fun
  | [d] => { results := [.lit (.bool false)], args := [d] }
  | _ => none }
def FnGrbWholeWrongFalsely : Prop := fnGrbWholeRow.holds Tryz.pinned (OpenSpec.ofChange fnGrbWholeWrong)

/-- 'laws.FnGrbLeft': WHATEVER THE INPUT: true; the input reads as it did. -/
def fnGrbLeftSpec : ChangeSpec := { name := "fnGrbLeft", fn := fun _ => fun
  | [d1, d2] => { results := [.lit (.bool true)], args := [d1, d2] }
  | _ => none }
def fnGrbLeftRow : OpenClaim := { program := "ytncffcaabnjioaagreat", sum := "9c7bc36a97161fc46059ce833548f5f1dc74f1aa3ebf8e2ea3c2dbeadf4c9e83", func := "loop.example/selvedge/laws.FnGrbLeft", spec := "fnGrbLeft", unfollowed := true, recurses := true, plainKeys := false, apart := false }
def FnGrbLeftSaid : Prop := fnGrbLeftRow.holds Tryz.pinned (OpenSpec.ofChange fnGrbLeftSpec)

/-- ITS FALSE NEIGHBOUR: 'it returns false'. Refute it at one input. -/
def fnGrbLeftWrong : ChangeSpec := { name := "fnGrbLeft", fn := fun _ => fun
  | [d1, d2] => { results := [.lit (.bool false)], args := [d1, d2] }
  | _ => none }
def FnGrbLeftWrongFalsely : Prop := fnGrbLeftRow.holds Tryz.pinned (OpenSpec.ofChange fnGrbLeftWrong)

/-- 'laws.FnIdlOf': WHATEVER THE INPUT: true; the input reads as it did. -/
def fnIdlOfSpec : ChangeSpec := { name := "fnIdlOf", fn := fun _ => fun
  | [d] => { results := [.lit (.bool true)], args := [d] }
  | _ => none }
def fnIdlOfRow : OpenClaim := { program := "ytncffcaabnjioaagreat", sum := "9c7bc36a97161fc46059ce833548f5f1dc74f1aa3ebf8e2ea3c2dbeadf4c9e83", func := "loop.example/selvedge/laws.FnIdlOf", spec := "fnIdlOf", unfollowed := true, recurses := true, plainKeys := false, apart := false }
def FnIdlOfSaid : Prop := fnIdlOfRow.holds Tryz.pinned (OpenSpec.ofChange fnIdlOfSpec)

/-- ITS FALSE NEIGHBOUR: 'it returns false'. Refute it at one input. -/
def fnIdlOfWrong : ChangeSpec := { name := "fnIdlOf", fn := fun _ => fun
  | [d] => { results := [.lit (.bool false)], args := [d] }
  | _ => none }
def FnIdlOfWrongFalsely : Prop := fnIdlOfRow.holds Tryz.pinned (OpenSpec.ofChange fnIdlOfWrong)

/- THE SECOND FORM. 'bulk': how many values and letters a reading holds, each counted each time it is reached (what is shared counts as often as it is met; a slice's spare places count too). A statement '..UptoSaid' is the law's where the arguments, and the package variables that the reading takes, are together of bulk at most 1048576: NARROWER than '..Said'. Prove '..Said' where nothing that the law and all that it calls make is longer than what came in: it says more and counts as full. Else prove '..UptoSaid'. A law counts once. -/
mutual
def uptoBulk {H : Type} : DataW H → Nat
  | .lit (.string bytes) => bytes.length + 1
  | .lit _ => 1
  | .nil => 1
  | .ptr d => uptoBulk d + 1
  | .slice elems spare => uptoBulkAll elems + uptoBulkAll spare + 1
  | .agg parts => uptoBulkAll parts + 1
  | .iface _ d => uptoBulk d + 1
  | .map entries => uptoBulkEntries entries + 1
  | .held _ => 1
def uptoBulkAll {H : Type} : List (DataW H) → Nat
  | [] => 0
  | d :: r => uptoBulk d + uptoBulkAll r
def uptoBulkEntries {H : Type} : List (Lit × DataW H) → Nat
  | [] => 0
  | x :: r => uptoBulkEntry x + uptoBulkEntries r
def uptoBulkEntry {H : Type} : Lit × DataW H → Nat
  | (.string bytes, d) => bytes.length + uptoBulk d + 1
  | (_, d) => uptoBulk d + 1
 end
def uptoSmall : (H : Type) → List (DataW H) → Bool := fun _ ds => decide (uptoBulkAll ds ≤ 1048576)
def OpenSpec.upto (s : _root_.Go.ChangeSpec) : _root_.Go.OpenSpec := { _root_.Go.OpenSpec.ofChange s with cond := some uptoSmall }

/-- 'laws.FnGrbIn', WHERE WHAT IT READS IS OF BULK AT MOST 1048576: true; the input reads as it did. -/
def fnGrbInUptoRow : OpenClaim := { program := "ytncffcaabnjioaagreat", sum := "9c7bc36a97161fc46059ce833548f5f1dc74f1aa3ebf8e2ea3c2dbeadf4c9e83", func := "loop.example/selvedge/laws.FnGrbIn", spec := "fnGrbIn", unfollowed := true, recurses := true, plainKeys := false, apart := false, narrowed := true }
def FnGrbInUptoSaid : Prop := fnGrbInUptoRow.holds Tryz.pinned (OpenSpec.upto fnGrbInSpec)

/-- 'laws.FnGrbTell', WHERE WHAT IT READS IS OF BULK AT MOST 1048576: true; the input reads as it did. -/
def fnGrbTellUptoRow : OpenClaim := { program := "ytncffcaabnjioaagreat", sum := "9c7bc36a97161fc46059ce833548f5f1dc74f1aa3ebf8e2ea3c2dbeadf4c9e83", func := "loop.example/selvedge/laws.FnGrbTell", spec := "fnGrbTell", unfollowed := true, recurses := true, plainKeys := false, apart := false, narrowed := true }
def FnGrbTellUptoSaid : Prop := fnGrbTellUptoRow.holds Tryz.pinned (OpenSpec.upto fnGrbTellSpec)

/-- 'laws.FnGrbLeast', WHERE WHAT IT READS IS OF BULK AT MOST 1048576: true; the input reads as it did. -/
def fnGrbLeastUptoRow : OpenClaim := { program := "ytncffcaabnjioaagreat", sum := "9c7bc36a97161fc46059ce833548f5f1dc74f1aa3ebf8e2ea3c2dbeadf4c9e83", func := "loop.example/selvedge/laws.FnGrbLeast", spec := "fnGrbLeast", unfollowed := true, recurses := true, plainKeys := false, apart := false, narrowed := true }
def FnGrbLeastUptoSaid : Prop := fnGrbLeastUptoRow.holds Tryz.pinned (OpenSpec.upto fnGrbLeastSpec)

/-- 'laws.FnGrbWhole', WHERE WHAT IT READS IS OF BULK AT MOST 1048576: true; the input reads as it did. -/
def fnGrbWholeUptoRow : OpenClaim := { program := "ytncffcaabnjioaagreat", sum := "9c7bc36a97161fc46059ce833548f5f1dc74f1aa3ebf8e2ea3c2dbeadf4c9e83", func := "loop.example/selvedge/laws.FnGrbWhole", spec := "fnGrbWhole", unfollowed := true, recurses := true, plainKeys := false, apart := false, narrowed := true }
def FnGrbWholeUptoSaid : Prop := fnGrbWholeUptoRow.holds Tryz.pinned (OpenSpec.upto fnGrbWholeSpec)

/-- 'laws.FnGrbLeft', WHERE WHAT IT READS IS OF BULK AT MOST 1048576: true; the input reads as it did. -/
def fnGrbLeftUptoRow : OpenClaim := { program := "ytncffcaabnjioaagreat", sum := "9c7bc36a97161fc46059ce833548f5f1dc74f1aa3ebf8e2ea3c2dbeadf4c9e83", func := "loop.example/selvedge/laws.FnGrbLeft", spec := "fnGrbLeft", unfollowed := true, recurses := true, plainKeys := false, apart := false, narrowed := true }
def FnGrbLeftUptoSaid : Prop := fnGrbLeftUptoRow.holds Tryz.pinned (OpenSpec.upto fnGrbLeftSpec)

/-- 'laws.FnIdlOf', WHERE WHAT IT READS IS OF BULK AT MOST 1048576: true; the input reads as it did. -/
def fnIdlOfUptoRow : OpenClaim := { program := "ytncffcaabnjioaagreat", sum := "9c7bc36a97161fc46059ce833548f5f1dc74f1aa3ebf8e2ea3c2dbeadf4c9e83", func := "loop.example/selvedge/laws.FnIdlOf", spec := "fnIdlOf", unfollowed := true, recurses := true, plainKeys := false, apart := false, narrowed := true }
def FnIdlOfUptoSaid : Prop := fnIdlOfUptoRow.holds Tryz.pinned (OpenSpec.upto fnIdlOfSpec)

end Rows
end Go.Proofs.YtncffcaabnjioaaGreat
