/-
  No cell of these rows narrows 'for every input' (looked for: loops, veiled, ifaces, maps, wideKeys, modest, calm, conditions, laid).
  DERIVED. THE GIVEN ROWS OF THIS SEAT. 3 by the template 'for every input the law returns true; each argument reads behind the call as it read before'; 0 by the template 'total and deterministic' (their statements: YtahbekfhoidgjawTotals.lean).
  GIVEN WITH THE SEED: the statements are not yours to turn. If you find one false, say at which input.
  Laid BY PROGRAM, IN A SANDBOX (cutbox-rows.mjs): the forced cells as the released guide's own fill.sh prints them over the translation 48f6f0b756458137… (all of the seat's roots in one cut). By AI agents, Wed Nov 11 2026. No macro, syntax, notation, axiom, sorry.
-/
import Derived.Test.YtahbekfhoidgjawChecked
import GoSem.Claim
import GoSem.ClaimJoined
import GoSem.ClaimMapViews
import Derived.JoinedTies
import Derived.KernelRfl
namespace Go.Proofs.Ytahbekfhoidgjaw
/- THE CELL 'sum', in the pinned program and in every row, IS THE sha256 OF THE DUMP (.gsa) THAT YtahbekfhoidgjawProg.lean LOADS. Nothing in Lean hashes anything: it is a label: what it is worth is what the hold of that sum in a sandbox is worth. -/
noncomputable def Try.pinned : Pinned := { name := "ytahbekfhoidgjaw", sum := "48f6f0b75645813787cb920aa67465356d60199471c19d2cba65fa19be2db815", checked := Try.checked }
namespace Rows
def none {H : Type} : Left H := { results := [], args := [] }

/-- 'laws.FnExactMapShift': WHATEVER THE INPUT: true; the input reads as it did. -/
def fnExactMapShiftSpec : ChangeSpec := { name := "fnExactMapShift", fn := fun _ => fun
  | [d1, d2, d3] => { results := [.lit (.bool true)], args := [d1, d2, d3] }
  | _ => none }
def fnExactMapShiftRow : OpenClaim := { program := "ytahbekfhoidgjaw", sum := "48f6f0b75645813787cb920aa67465356d60199471c19d2cba65fa19be2db815", func := "loop.example/selvedge/laws.FnExactMapShift", spec := "fnExactMapShift", unfollowed := true, recurses := true, plainKeys := false, apart := false }
def FnExactMapShiftSaid : Prop := fnExactMapShiftRow.holds Try.pinned (OpenSpec.ofChange fnExactMapShiftSpec)

/-- ITS FALSE NEIGHBOUR: 'it returns false'. Refute it at one input. -/
def fnExactMapShiftWrong : ChangeSpec := { name := "fnExactMapShift", fn := fun _ => fun
  | [d1, d2, d3] => { results := [.lit (.bool false)], args := [d1, d2, d3] }
  | _ => none }
def FnExactMapShiftWrongFalsely : Prop := fnExactMapShiftRow.holds Try.pinned (OpenSpec.ofChange fnExactMapShiftWrong)

/-- 'laws.FnExactMapLean': WHATEVER THE INPUT: true; the input reads as it did. -/
def fnExactMapLeanSpec : ChangeSpec := { name := "fnExactMapLean", fn := fun _ => fun
  | [d1, d2] => { results := [.lit (.bool true)], args := [d1, d2] }
  | _ => none }
def fnExactMapLeanRow : OpenClaim := { program := "ytahbekfhoidgjaw", sum := "48f6f0b75645813787cb920aa67465356d60199471c19d2cba65fa19be2db815", func := "loop.example/selvedge/laws.FnExactMapLean", spec := "fnExactMapLean", unfollowed := true, recurses := true, plainKeys := false, apart := false }
def FnExactMapLeanSaid : Prop := fnExactMapLeanRow.holds Try.pinned (OpenSpec.ofChange fnExactMapLeanSpec)

/-- ITS FALSE NEIGHBOUR: 'it returns false'. Refute it at one input. -/
def fnExactMapLeanWrong : ChangeSpec := { name := "fnExactMapLean", fn := fun _ => fun
  | [d1, d2] => { results := [.lit (.bool false)], args := [d1, d2] }
  | _ => none }
def FnExactMapLeanWrongFalsely : Prop := fnExactMapLeanRow.holds Try.pinned (OpenSpec.ofChange fnExactMapLeanWrong)

/-- 'laws.FnExactMapTurn': WHATEVER THE INPUT: true; the input reads as it did. -/
def fnExactMapTurnSpec : ChangeSpec := { name := "fnExactMapTurn", fn := fun _ => fun
  | [d] => { results := [.lit (.bool true)], args := [d] }
  | _ => none }
def fnExactMapTurnRow : OpenClaim := { program := "ytahbekfhoidgjaw", sum := "48f6f0b75645813787cb920aa67465356d60199471c19d2cba65fa19be2db815", func := "loop.example/selvedge/laws.FnExactMapTurn", spec := "fnExactMapTurn", unfollowed := true, recurses := true, plainKeys := false, apart := false }
def FnExactMapTurnSaid : Prop := fnExactMapTurnRow.holds Try.pinned (OpenSpec.ofChange fnExactMapTurnSpec)

/-- ITS FALSE NEIGHBOUR: 'it returns false'. Refute it at one input. -/
def fnExactMapTurnWrong : ChangeSpec := { name := "fnExactMapTurn", fn := fun _ => fun
  | [d] => { results := [.lit (.bool false)], args := [d] }
  | _ => none }
def FnExactMapTurnWrongFalsely : Prop := fnExactMapTurnRow.holds Try.pinned (OpenSpec.ofChange fnExactMapTurnWrong)

/- THE SECOND FORM. 'bulk': how many values and letters a reading holds, each counted each time it is reached (what is shared counts as often as it is met; a slice's spare places count too). A statement '..UptoSaid' is the law's where the arguments, and the package variables that the reading takes, are together of bulk at most 1048576: NARROWER than '..Said'. Prove '..Said' where nothing that the law and all that it calls make is longer than what came in: it says more and counts as full. Else prove '..UptoSaid'. A law counts once. -/
mutual
def uptoBulk {H : Type} : DataW H → Nat
  | .lit (.string bytes) => bytes.length + 1
  | .lit _ => 1
  | .nil => 1
  | .ptr d => uptoBulk d + 1
  | .slice elems spare => uptoBulkAll elems + uptoBulkAll spare + 1
  | .agg parts => uptoBulkAll parts + 1
  | .iface _ d => uptoBulk d + 1
  | .map entries => uptoBulkEntries entries + 1
  | .held _ => 1
def uptoBulkAll {H : Type} : List (DataW H) → Nat
  | [] => 0
  | d :: r => uptoBulk d + uptoBulkAll r
def uptoBulkEntries {H : Type} : List (Lit × DataW H) → Nat
  | [] => 0
  | x :: r => uptoBulkEntry x + uptoBulkEntries r
def uptoBulkEntry {H : Type} : Lit × DataW H → Nat
  | (.string bytes, d) => bytes.length + uptoBulk d + 1
  | (_, d) => uptoBulk d + 1
 end
def uptoSmall : (H : Type) → List (DataW H) → Bool := fun _ ds => decide (uptoBulkAll ds ≤ 1048576)
def OpenSpec.upto (s : _root_.Go.ChangeSpec) : _root_.Go.OpenSpec := { _root_.Go.OpenSpec.ofChange s with cond := some uptoSmall }

/-- 'laws.FnExactMapShift', WHERE WHAT IT READS IS OF BULK AT MOST 1048576: true; the input reads as it did. -/
def fnExactMapShiftUptoRow : OpenClaim := { program := "ytahbekfhoidgjaw", sum := "48f6f0b75645813787cb920aa67465356d60199471c19d2cba65fa19be2db815", func := "loop.example/selvedge/laws.FnExactMapShift", spec := "fnExactMapShift", unfollowed := true, recurses := true, plainKeys := false, apart := false, narrowed := true }
def FnExactMapShiftUptoSaid : Prop := fnExactMapShiftUptoRow.holds Try.pinned (OpenSpec.upto fnExactMapShiftSpec)

/-- 'laws.FnExactMapLean', WHERE WHAT IT READS IS OF BULK AT MOST 1048576: true; the input reads as it did. -/
def fnExactMapLeanUptoRow : OpenClaim := { program := "ytahbekfhoidgjaw", sum := "48f6f0b75645813787cb920aa67465356d60199471c19d2cba65fa19be2db815", func := "loop.example/selvedge/laws.FnExactMapLean", spec := "fnExactMapLean", unfollowed := true, recurses := true, plainKeys := false, apart := false, narrowed := true }
def FnExactMapLeanUptoSaid : Prop := fnExactMapLeanUptoRow.holds Try.pinned (OpenSpec.upto fnExactMapLeanSpec)

/-- 'laws.FnExactMapTurn', WHERE WHAT IT READS IS OF BULK AT MOST 1048576: true; the input reads as it did. -/
def fnExactMapTurnUptoRow : OpenClaim := { program := "ytahbekfhoidgjaw", sum := "48f6f0b75645813787cb920aa67465356d60199471c19d2cba65fa19be2db815", func := "loop.example/selvedge/laws.FnExactMapTurn", spec := "fnExactMapTurn", unfollowed := true, recurses := true, plainKeys := false, apart := false, narrowed := true }
def FnExactMapTurnUptoSaid : Prop := fnExactMapTurnUptoRow.holds Try.pinned (OpenSpec.upto fnExactMapTurnSpec)

end Rows
end Go.Proofs.Ytahbekfhoidgjaw
