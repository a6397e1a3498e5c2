/-
  No cell of these rows narrows 'for every input' (looked for: loops, veiled, ifaces, maps, wideKeys, modest, calm, conditions, laid).
  DERIVED. THE GIVEN ROWS OF THIS SEAT. 5 by the template 'for every input the law returns true; each argument reads behind the call as it read before'; 0 by the template 'total and deterministic' (their statements: YtfnlogmfkpaaiacTotals.lean).
  GIVEN WITH THE SEED: the statements are not yours to turn. If you find one false, say at which input.
  Laid BY PROGRAM, IN A SANDBOX (cutbox-rows.mjs): the forced cells as the released guide's own fill.sh prints them over the translation a561be1709a6815a… (all of the seat's roots in one cut). By AI agents, Wed Nov 11 2026. No macro, syntax, notation, axiom, sorry.
-/
import Derived.Test.YtfnlogmfkpaaiacChecked
import GoSem.Claim
import GoSem.ClaimJoined
import GoSem.ClaimMapViews
import Derived.JoinedTies
import Derived.KernelRfl
namespace Go.Proofs.Ytfnlogmfkpaaiac
/- THE CELL 'sum', in the pinned program and in every row, IS THE sha256 OF THE DUMP (.gsa) THAT YtfnlogmfkpaaiacProg.lean LOADS. Nothing in Lean hashes anything: it is a label: what it is worth is what the hold of that sum in a sandbox is worth. -/
noncomputable def Try.pinned : Pinned := { name := "ytfnlogmfkpaaiac", sum := "a561be1709a6815a3242d49e65a5946ebda993e91785b135d7ae77cd1ccb3654", checked := Try.checked }
namespace Rows
def none {H : Type} : Left H := { results := [], args := [] }

/-- 'laws.FnMonBoth': WHATEVER THE INPUT: true; the input reads as it did. -/
def fnMonBothSpec : ChangeSpec := { name := "fnMonBoth", fn := fun _ => fun
  | [d1, d2] => { results := [.lit (.bool true)], args := [d1, d2] }
  | _ => none }
def fnMonBothRow : OpenClaim := { program := "ytfnlogmfkpaaiac", sum := "a561be1709a6815a3242d49e65a5946ebda993e91785b135d7ae77cd1ccb3654", func := "loop.example/selvedge/laws.FnMonBoth", spec := "fnMonBoth", plainKeys := false, apart := false }
def FnMonBothSaid : Prop := fnMonBothRow.holds Try.pinned (OpenSpec.ofChange fnMonBothSpec)

/-- ITS FALSE NEIGHBOUR: 'it returns false'. Refute it at one input. -/
def fnMonBothWrong : ChangeSpec := { name := "fnMonBoth", fn := fun _ => fun
  | [d1, d2] => { results := [.lit (.bool false)], args := [d1, d2] }
  | _ => none }
def FnMonBothWrongFalsely : Prop := fnMonBothRow.holds Try.pinned (OpenSpec.ofChange fnMonBothWrong)

/-- 'laws.FnPolOk': WHATEVER THE INPUT: true; the input reads as it did. -/
def fnPolOkSpec : ChangeSpec := { name := "fnPolOk", fn := fun _ => fun
  | [d] => { results := [.lit (.bool true)], args := [d] }
  | _ => none }
def fnPolOkRow : OpenClaim := { program := "ytfnlogmfkpaaiac", sum := "a561be1709a6815a3242d49e65a5946ebda993e91785b135d7ae77cd1ccb3654", func := "loop.example/selvedge/laws.FnPolOk", spec := "fnPolOk", unfollowed := true, recurses := true, plainKeys := false, apart := false }
def FnPolOkSaid : Prop := fnPolOkRow.holds Try.pinned (OpenSpec.ofChange fnPolOkSpec)

/-- ITS FALSE NEIGHBOUR: 'it returns false'. Refute it at one input. -/
def fnPolOkWrong : ChangeSpec := { name := "fnPolOk", fn := fun _ => fun
  | [d] => { results := [.lit (.bool false)], args := [d] }
  | _ => none }
def FnPolOkWrongFalsely : Prop := fnPolOkRow.holds Try.pinned (OpenSpec.ofChange fnPolOkWrong)

/-- 'laws.FnPolOf': WHATEVER THE INPUT: true; the input reads as it did. -/
def fnPolOfSpec : ChangeSpec := { name := "fnPolOf", fn := fun _ => fun
  | [d] => { results := [.lit (.bool true)], args := [d] }
  | _ => none }
def fnPolOfRow : OpenClaim := { program := "ytfnlogmfkpaaiac", sum := "a561be1709a6815a3242d49e65a5946ebda993e91785b135d7ae77cd1ccb3654", func := "loop.example/selvedge/laws.FnPolOf", spec := "fnPolOf", plainKeys := false, apart := false }
def FnPolOfSaid : Prop := fnPolOfRow.holds Try.pinned (OpenSpec.ofChange fnPolOfSpec)

/-- ITS FALSE NEIGHBOUR: 'it returns false'. Refute it at one input. -/
def fnPolOfWrong : ChangeSpec := { name := "fnPolOf", fn := fun _ => fun
  | [d] => { results := [.lit (.bool false)], args := [d] }
  | _ => none }
def FnPolOfWrongFalsely : Prop := fnPolOfRow.holds Try.pinned (OpenSpec.ofChange fnPolOfWrong)

/-- 'laws.FnPolAdd': WHATEVER THE INPUT: true; the input reads as it did. -/
def fnPolAddSpec : ChangeSpec := { name := "fnPolAdd", fn := fun _ => fun
  | [d1, d2] => { results := [.lit (.bool true)], args := [d1, d2] }
  | _ => none }
def fnPolAddRow : OpenClaim := { program := "ytfnlogmfkpaaiac", sum := "a561be1709a6815a3242d49e65a5946ebda993e91785b135d7ae77cd1ccb3654", func := "loop.example/selvedge/laws.FnPolAdd", spec := "fnPolAdd", unfollowed := true, recurses := true, plainKeys := false, apart := false }
def FnPolAddSaid : Prop := fnPolAddRow.holds Try.pinned (OpenSpec.ofChange fnPolAddSpec)

/-- ITS FALSE NEIGHBOUR: 'it returns false'. Refute it at one input. -/
def fnPolAddWrong : ChangeSpec := { name := "fnPolAdd", fn := fun _ => fun
  | [d1, d2] => { results := [.lit (.bool false)], args := [d1, d2] }
  | _ => none }
def FnPolAddWrongFalsely : Prop := fnPolAddRow.holds Try.pinned (OpenSpec.ofChange fnPolAddWrong)

/-- 'laws.FnPolSub': WHATEVER THE INPUT: true; the input reads as it did. -/
def fnPolSubSpec : ChangeSpec := { name := "fnPolSub", fn := fun _ => fun
  | [d] => { results := [.lit (.bool true)], args := [d] }
  | _ => none }
def fnPolSubRow : OpenClaim := { program := "ytfnlogmfkpaaiac", sum := "a561be1709a6815a3242d49e65a5946ebda993e91785b135d7ae77cd1ccb3654", func := "loop.example/selvedge/laws.FnPolSub", spec := "fnPolSub", unfollowed := true, recurses := true, plainKeys := false, apart := false }
def FnPolSubSaid : Prop := fnPolSubRow.holds Try.pinned (OpenSpec.ofChange fnPolSubSpec)

/-- ITS FALSE NEIGHBOUR: 'it returns false'. Refute it at one input. -/
def fnPolSubWrong : ChangeSpec := { name := "fnPolSub", fn := fun _ => fun
  | [d] => { results := [.lit (.bool false)], args := [d] }
  | _ => none }
def FnPolSubWrongFalsely : Prop := fnPolSubRow.holds Try.pinned (OpenSpec.ofChange fnPolSubWrong)

/- THE SECOND FORM. 'bulk': how many values and letters a reading holds, each counted each time it is reached (what is shared counts as often as it is met; a slice's spare places count too). A statement '..UptoSaid' is the law's where the arguments, and the package variables that the reading takes, are together of bulk at most 1048576: NARROWER than '..Said'. Prove '..Said' where nothing that the law and all that it calls make is longer than what came in: it says more and counts as full. Else prove '..UptoSaid'. A law counts once. -/
mutual
def uptoBulk {H : Type} : DataW H → Nat
  | .lit (.string bytes) => bytes.length + 1
  | .lit _ => 1
  | .nil => 1
  | .ptr d => uptoBulk d + 1
  | .slice elems spare => uptoBulkAll elems + uptoBulkAll spare + 1
  | .agg parts => uptoBulkAll parts + 1
  | .iface _ d => uptoBulk d + 1
  | .map entries => uptoBulkEntries entries + 1
  | .held _ => 1
def uptoBulkAll {H : Type} : List (DataW H) → Nat
  | [] => 0
  | d :: r => uptoBulk d + uptoBulkAll r
def uptoBulkEntries {H : Type} : List (Lit × DataW H) → Nat
  | [] => 0
  | x :: r => uptoBulkEntry x + uptoBulkEntries r
def uptoBulkEntry {H : Type} : Lit × DataW H → Nat
  | (.string bytes, d) => bytes.length + uptoBulk d + 1
  | (_, d) => uptoBulk d + 1
 end
def uptoSmall : (H : Type) → List (DataW H) → Bool := fun _ ds => decide (uptoBulkAll ds ≤ 1048576)
def OpenSpec.upto (s : _root_.Go.ChangeSpec) : _root_.Go.OpenSpec := { _root_.Go.OpenSpec.ofChange s with cond := some uptoSmall }

/-- 'laws.FnMonBoth', WHERE WHAT IT READS IS OF BULK AT MOST 1048576: true; the input reads as it did. -/
def fnMonBothUptoRow : OpenClaim := { program := "ytfnlogmfkpaaiac", sum := "a561be1709a6815a3242d49e65a5946ebda993e91785b135d7ae77cd1ccb3654", func := "loop.example/selvedge/laws.FnMonBoth", spec := "fnMonBoth", plainKeys := false, apart := false, narrowed := true }
def FnMonBothUptoSaid : Prop := fnMonBothUptoRow.holds Try.pinned (OpenSpec.upto fnMonBothSpec)

/-- 'laws.FnPolOk', WHERE WHAT IT READS IS OF BULK AT MOST 1048576: true; the input reads as it did. -/
def fnPolOkUptoRow : OpenClaim := { program := "ytfnlogmfkpaaiac", sum := "a561be1709a6815a3242d49e65a5946ebda993e91785b135d7ae77cd1ccb3654", func := "loop.example/selvedge/laws.FnPolOk", spec := "fnPolOk", unfollowed := true, recurses := true, plainKeys := false, apart := false, narrowed := true }
def FnPolOkUptoSaid : Prop := fnPolOkUptoRow.holds Try.pinned (OpenSpec.upto fnPolOkSpec)

/-- 'laws.FnPolOf', WHERE WHAT IT READS IS OF BULK AT MOST 1048576: true; the input reads as it did. -/
def fnPolOfUptoRow : OpenClaim := { program := "ytfnlogmfkpaaiac", sum := "a561be1709a6815a3242d49e65a5946ebda993e91785b135d7ae77cd1ccb3654", func := "loop.example/selvedge/laws.FnPolOf", spec := "fnPolOf", plainKeys := false, apart := false, narrowed := true }
def FnPolOfUptoSaid : Prop := fnPolOfUptoRow.holds Try.pinned (OpenSpec.upto fnPolOfSpec)

/-- 'laws.FnPolAdd', WHERE WHAT IT READS IS OF BULK AT MOST 1048576: true; the input reads as it did. -/
def fnPolAddUptoRow : OpenClaim := { program := "ytfnlogmfkpaaiac", sum := "a561be1709a6815a3242d49e65a5946ebda993e91785b135d7ae77cd1ccb3654", func := "loop.example/selvedge/laws.FnPolAdd", spec := "fnPolAdd", unfollowed := true, recurses := true, plainKeys := false, apart := false, narrowed := true }
def FnPolAddUptoSaid : Prop := fnPolAddUptoRow.holds Try.pinned (OpenSpec.upto fnPolAddSpec)

/-- 'laws.FnPolSub', WHERE WHAT IT READS IS OF BULK AT MOST 1048576: true; the input reads as it did. -/
def fnPolSubUptoRow : OpenClaim := { program := "ytfnlogmfkpaaiac", sum := "a561be1709a6815a3242d49e65a5946ebda993e91785b135d7ae77cd1ccb3654", func := "loop.example/selvedge/laws.FnPolSub", spec := "fnPolSub", unfollowed := true, recurses := true, plainKeys := false, apart := false, narrowed := true }
def FnPolSubUptoSaid : Prop := fnPolSubUptoRow.holds Try.pinned (OpenSpec.upto fnPolSubSpec)

end Rows
end Go.Proofs.Ytfnlogmfkpaaiac
