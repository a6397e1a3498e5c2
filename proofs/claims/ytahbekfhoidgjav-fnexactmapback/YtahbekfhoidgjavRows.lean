/-
  No cell of these rows narrows 'for every input' (looked for: loops, veiled, ifaces, maps, wideKeys, modest, calm, conditions, laid).
  DERIVED. THE GIVEN ROWS OF THIS SEAT. 6 by the template 'for every input the law returns true; each argument reads behind the call as it read before'; 0 by the template 'total and deterministic' (their statements: YtahbekfhoidgjavTotals.lean).
  GIVEN WITH THE SEED: the statements are not yours to turn. If you find one false, say at which input.
  Laid BY PROGRAM, IN A SANDBOX (cutbox-rows.mjs): the forced cells as the released guide's own fill.sh prints them over the translation 4b9bcef98efebb04… (all of the seat's roots in one cut). By AI agents, Wed Nov 11 2026. No macro, syntax, notation, axiom, sorry.
-/
import Derived.Test.YtahbekfhoidgjavChecked
import GoSem.Claim
import GoSem.ClaimJoined
import GoSem.ClaimMapViews
import Derived.JoinedTies
import Derived.KernelRfl
namespace Go.Proofs.Ytahbekfhoidgjav
/- THE CELL 'sum', in the pinned program and in every row, IS THE sha256 OF THE DUMP (.gsa) THAT YtahbekfhoidgjavProg.lean LOADS. Nothing in Lean hashes anything: it is a label: what it is worth is what the hold of that sum in a sandbox is worth. -/
noncomputable def Try.pinned : Pinned := { name := "ytahbekfhoidgjav", sum := "4b9bcef98efebb0400c132f2ec0dd248c9e7d526d46d56741447f4dfa8b62a92", checked := Try.checked }
namespace Rows
def none {H : Type} : Left H := { results := [], args := [] }

/-- 'laws.FnExactWylDo': WHATEVER THE INPUT: true; the input reads as it did. -/
def fnExactWylDoSpec : ChangeSpec := { name := "fnExactWylDo", fn := fun _ => fun
  | [d1, d2] => { results := [.lit (.bool true)], args := [d1, d2] }
  | _ => none }
def fnExactWylDoRow : OpenClaim := { program := "ytahbekfhoidgjav", sum := "4b9bcef98efebb0400c132f2ec0dd248c9e7d526d46d56741447f4dfa8b62a92", func := "loop.example/selvedge/laws.FnExactWylDo", spec := "fnExactWylDo", unfollowed := true, recurses := true, plainKeys := false, apart := false }
def FnExactWylDoSaid : Prop := fnExactWylDoRow.holds Try.pinned (OpenSpec.ofChange fnExactWylDoSpec)

/-- ITS FALSE NEIGHBOUR: 'it returns false'. Refute it at one input. -/
def fnExactWylDoWrong : ChangeSpec := { name := "fnExactWylDo", fn := fun _ => fun
  | [d1, d2] => { results := [.lit (.bool false)], args := [d1, d2] }
  | _ => none }
def FnExactWylDoWrongFalsely : Prop := fnExactWylDoRow.holds Try.pinned (OpenSpec.ofChange fnExactWylDoWrong)

/-- 'laws.FnExactActSlope': WHATEVER THE INPUT: true; the input reads as it did. -/
def fnExactActSlopeSpec : ChangeSpec := { name := "fnExactActSlope", fn := fun _ => fun
  | [d1, d2] => { results := [.lit (.bool true)], args := [d1, d2] }
  | _ => none }
def fnExactActSlopeRow : OpenClaim := { program := "ytahbekfhoidgjav", sum := "4b9bcef98efebb0400c132f2ec0dd248c9e7d526d46d56741447f4dfa8b62a92", func := "loop.example/selvedge/laws.FnExactActSlope", spec := "fnExactActSlope", plainKeys := false, apart := false }
def FnExactActSlopeSaid : Prop := fnExactActSlopeRow.holds Try.pinned (OpenSpec.ofChange fnExactActSlopeSpec)

/-- ITS FALSE NEIGHBOUR: 'it returns false'. Refute it at one input. -/
def fnExactActSlopeWrong : ChangeSpec := { name := "fnExactActSlope", fn := fun _ => fun
  | [d1, d2] => { results := [.lit (.bool false)], args := [d1, d2] }
  | _ => none }
def FnExactActSlopeWrongFalsely : Prop := fnExactActSlopeRow.holds Try.pinned (OpenSpec.ofChange fnExactActSlopeWrong)

/-- 'laws.FnExactActAt': WHATEVER THE INPUT: true; the input reads as it did. -/
def fnExactActAtSpec : ChangeSpec := { name := "fnExactActAt", fn := fun _ => fun
  | [d1, d2, d3] => { results := [.lit (.bool true)], args := [d1, d2, d3] }
  | _ => none }
def fnExactActAtRow : OpenClaim := { program := "ytahbekfhoidgjav", sum := "4b9bcef98efebb0400c132f2ec0dd248c9e7d526d46d56741447f4dfa8b62a92", func := "loop.example/selvedge/laws.FnExactActAt", spec := "fnExactActAt", plainKeys := false, apart := false }
def FnExactActAtSaid : Prop := fnExactActAtRow.holds Try.pinned (OpenSpec.ofChange fnExactActAtSpec)

/-- ITS FALSE NEIGHBOUR: 'it returns false'. Refute it at one input. -/
def fnExactActAtWrong : ChangeSpec := { name := "fnExactActAt", fn := fun _ => fun
  | [d1, d2, d3] => { results := [.lit (.bool false)], args := [d1, d2, d3] }
  | _ => none }
def FnExactActAtWrongFalsely : Prop := fnExactActAtRow.holds Try.pinned (OpenSpec.ofChange fnExactActAtWrong)

/-- 'laws.FnExactMapRound': WHATEVER THE INPUT: true; the input reads as it did. -/
def fnExactMapRoundSpec : ChangeSpec := { name := "fnExactMapRound", fn := fun _ => fun
  | [d] => { results := [.lit (.bool true)], args := [d] }
  | _ => none }
def fnExactMapRoundRow : OpenClaim := { program := "ytahbekfhoidgjav", sum := "4b9bcef98efebb0400c132f2ec0dd248c9e7d526d46d56741447f4dfa8b62a92", func := "loop.example/selvedge/laws.FnExactMapRound", spec := "fnExactMapRound", unfollowed := true, recurses := true, plainKeys := false, apart := false }
def FnExactMapRoundSaid : Prop := fnExactMapRoundRow.holds Try.pinned (OpenSpec.ofChange fnExactMapRoundSpec)

/-- ITS FALSE NEIGHBOUR: 'it returns false'. Refute it at one input. -/
def fnExactMapRoundWrong : ChangeSpec := { name := "fnExactMapRound", fn := fun _ => fun
  | [d] => { results := [.lit (.bool false)], args := [d] }
  | _ => none }
def FnExactMapRoundWrongFalsely : Prop := fnExactMapRoundRow.holds Try.pinned (OpenSpec.ofChange fnExactMapRoundWrong)

/-- 'laws.FnExactMapBack': WHATEVER THE INPUT: true; the input reads as it did. -/
def fnExactMapBackSpec : ChangeSpec := { name := "fnExactMapBack", fn := fun _ => fun
  | [d] => { results := [.lit (.bool true)], args := [d] }
  | _ => none }
def fnExactMapBackRow : OpenClaim := { program := "ytahbekfhoidgjav", sum := "4b9bcef98efebb0400c132f2ec0dd248c9e7d526d46d56741447f4dfa8b62a92", func := "loop.example/selvedge/laws.FnExactMapBack", spec := "fnExactMapBack", unfollowed := true, recurses := true, plainKeys := false, apart := false }
def FnExactMapBackSaid : Prop := fnExactMapBackRow.holds Try.pinned (OpenSpec.ofChange fnExactMapBackSpec)

/-- ITS FALSE NEIGHBOUR: 'it returns false'. Refute it at one input. -/
def fnExactMapBackWrong : ChangeSpec := { name := "fnExactMapBack", fn := fun _ => fun
  | [d] => { results := [.lit (.bool false)], args := [d] }
  | _ => none }
def FnExactMapBackWrongFalsely : Prop := fnExactMapBackRow.holds Try.pinned (OpenSpec.ofChange fnExactMapBackWrong)

/-- 'laws.FnExactMapSwap': WHATEVER THE INPUT: true; the input reads as it did. -/
def fnExactMapSwapSpec : ChangeSpec := { name := "fnExactMapSwap", fn := fun _ => fun
  | [d] => { results := [.lit (.bool true)], args := [d] }
  | _ => none }
def fnExactMapSwapRow : OpenClaim := { program := "ytahbekfhoidgjav", sum := "4b9bcef98efebb0400c132f2ec0dd248c9e7d526d46d56741447f4dfa8b62a92", func := "loop.example/selvedge/laws.FnExactMapSwap", spec := "fnExactMapSwap", unfollowed := true, recurses := true, plainKeys := false, apart := false }
def FnExactMapSwapSaid : Prop := fnExactMapSwapRow.holds Try.pinned (OpenSpec.ofChange fnExactMapSwapSpec)

/-- ITS FALSE NEIGHBOUR: 'it returns false'. Refute it at one input. -/
def fnExactMapSwapWrong : ChangeSpec := { name := "fnExactMapSwap", fn := fun _ => fun
  | [d] => { results := [.lit (.bool false)], args := [d] }
  | _ => none }
def FnExactMapSwapWrongFalsely : Prop := fnExactMapSwapRow.holds Try.pinned (OpenSpec.ofChange fnExactMapSwapWrong)

/- THE SECOND FORM. 'bulk': how many values and letters a reading holds, each counted each time it is reached (what is shared counts as often as it is met; a slice's spare places count too). A statement '..UptoSaid' is the law's where the arguments, and the package variables that the reading takes, are together of bulk at most 1048576: NARROWER than '..Said'. Prove '..Said' where nothing that the law and all that it calls make is longer than what came in: it says more and counts as full. Else prove '..UptoSaid'. A law counts once. -/
mutual
def uptoBulk {H : Type} : DataW H → Nat
  | .lit (.string bytes) => bytes.length + 1
  | .lit _ => 1
  | .nil => 1
  | .ptr d => uptoBulk d + 1
  | .slice elems spare => uptoBulkAll elems + uptoBulkAll spare + 1
  | .agg parts => uptoBulkAll parts + 1
  | .iface _ d => uptoBulk d + 1
  | .map entries => uptoBulkEntries entries + 1
  | .held _ => 1
def uptoBulkAll {H : Type} : List (DataW H) → Nat
  | [] => 0
  | d :: r => uptoBulk d + uptoBulkAll r
def uptoBulkEntries {H : Type} : List (Lit × DataW H) → Nat
  | [] => 0
  | x :: r => uptoBulkEntry x + uptoBulkEntries r
def uptoBulkEntry {H : Type} : Lit × DataW H → Nat
  | (.string bytes, d) => bytes.length + uptoBulk d + 1
  | (_, d) => uptoBulk d + 1
 end
def uptoSmall : (H : Type) → List (DataW H) → Bool := fun _ ds => decide (uptoBulkAll ds ≤ 1048576)
def OpenSpec.upto (s : _root_.Go.ChangeSpec) : _root_.Go.OpenSpec := { _root_.Go.OpenSpec.ofChange s with cond := some uptoSmall }

/-- 'laws.FnExactWylDo', WHERE WHAT IT READS IS OF BULK AT MOST 1048576: true; the input reads as it did. -/
def fnExactWylDoUptoRow : OpenClaim := { program := "ytahbekfhoidgjav", sum := "4b9bcef98efebb0400c132f2ec0dd248c9e7d526d46d56741447f4dfa8b62a92", func := "loop.example/selvedge/laws.FnExactWylDo", spec := "fnExactWylDo", unfollowed := true, recurses := true, plainKeys := false, apart := false, narrowed := true }
def FnExactWylDoUptoSaid : Prop := fnExactWylDoUptoRow.holds Try.pinned (OpenSpec.upto fnExactWylDoSpec)

/-- 'laws.FnExactActSlope', WHERE WHAT IT READS IS OF BULK AT MOST 1048576: true; the input reads as it did. -/
def fnExactActSlopeUptoRow : OpenClaim := { program := "ytahbekfhoidgjav", sum := "4b9bcef98efebb0400c132f2ec0dd248c9e7d526d46d56741447f4dfa8b62a92", func := "loop.example/selvedge/laws.FnExactActSlope", spec := "fnExactActSlope", plainKeys := false, apart := false, narrowed := true }
def FnExactActSlopeUptoSaid : Prop := fnExactActSlopeUptoRow.holds Try.pinned (OpenSpec.upto fnExactActSlopeSpec)

/-- 'laws.FnExactActAt', WHERE WHAT IT READS IS OF BULK AT MOST 1048576: true; the input reads as it did. -/
def fnExactActAtUptoRow : OpenClaim := { program := "ytahbekfhoidgjav", sum := "4b9bcef98efebb0400c132f2ec0dd248c9e7d526d46d56741447f4dfa8b62a92", func := "loop.example/selvedge/laws.FnExactActAt", spec := "fnExactActAt", plainKeys := false, apart := false, narrowed := true }
def FnExactActAtUptoSaid : Prop := fnExactActAtUptoRow.holds Try.pinned (OpenSpec.upto fnExactActAtSpec)

/-- 'laws.FnExactMapRound', WHERE WHAT IT READS IS OF BULK AT MOST 1048576: true; the input reads as it did. -/
def fnExactMapRoundUptoRow : OpenClaim := { program := "ytahbekfhoidgjav", sum := "4b9bcef98efebb0400c132f2ec0dd248c9e7d526d46d56741447f4dfa8b62a92", func := "loop.example/selvedge/laws.FnExactMapRound", spec := "fnExactMapRound", unfollowed := true, recurses := true, plainKeys := false, apart := false, narrowed := true }
def FnExactMapRoundUptoSaid : Prop := fnExactMapRoundUptoRow.holds Try.pinned (OpenSpec.upto fnExactMapRoundSpec)

/-- 'laws.FnExactMapBack', WHERE WHAT IT READS IS OF BULK AT MOST 1048576: true; the input reads as it did. -/
def fnExactMapBackUptoRow : OpenClaim := { program := "ytahbekfhoidgjav", sum := "4b9bcef98efebb0400c132f2ec0dd248c9e7d526d46d56741447f4dfa8b62a92", func := "loop.example/selvedge/laws.FnExactMapBack", spec := "fnExactMapBack", unfollowed := true, recurses := true, plainKeys := false, apart := false, narrowed := true }
def FnExactMapBackUptoSaid : Prop := fnExactMapBackUptoRow.holds Try.pinned (OpenSpec.upto fnExactMapBackSpec)

/-- 'laws.FnExactMapSwap', WHERE WHAT IT READS IS OF BULK AT MOST 1048576: true; the input reads as it did. -/
def fnExactMapSwapUptoRow : OpenClaim := { program := "ytahbekfhoidgjav", sum := "4b9bcef98efebb0400c132f2ec0dd248c9e7d526d46d56741447f4dfa8b62a92", func := "loop.example/selvedge/laws.FnExactMapSwap", spec := "fnExactMapSwap", unfollowed := true, recurses := true, plainKeys := false, apart := false, narrowed := true }
def FnExactMapSwapUptoSaid : Prop := fnExactMapSwapUptoRow.holds Try.pinned (OpenSpec.upto fnExactMapSwapSpec)

end Rows
end Go.Proofs.Ytahbekfhoidgjav
