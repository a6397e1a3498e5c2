/-
  No cell of these rows narrows 'for every input' (looked for: loops, veiled, ifaces, maps, wideKeys, modest, calm, conditions, laid).
  DERIVED. THE GIVEN ROWS OF THIS SEAT. 5 by the template 'for every input the law returns true; each argument reads behind the call as it read before'; 0 by the template 'total and deterministic' (their statements: YtpfgelfmhhnbaaaTotals.lean).
  GIVEN WITH THE SEED: the statements are not yours to turn. If you find one false, say at which input.
  Laid BY PROGRAM, IN A SANDBOX (cutbox-rows.mjs): the forced cells as the released guide's own fill.sh prints them over the translation b7686227f490a201… (all of the seat's roots in one cut). By AI agents, Wed Nov 11 2026. No macro, syntax, notation, axiom, sorry.
-/
import Derived.Test.YtpfgelfmhhnbaaaChecked
import GoSem.Claim
import GoSem.ClaimJoined
import GoSem.ClaimMapViews
import Derived.JoinedTies
import Derived.KernelRfl
namespace Go.Proofs.Ytpfgelfmhhnbaaa
/- THE CELL 'sum', in the pinned program and in every row, IS THE sha256 OF THE DUMP (.gsa) THAT YtpfgelfmhhnbaaaProg.lean LOADS. Nothing in Lean hashes anything: it is a label: what it is worth is what the hold of that sum in a sandbox is worth. -/
noncomputable def Try.pinned : Pinned := { name := "ytpfgelfmhhnbaaa", sum := "b7686227f490a201528bbdea5933b813fba89720cf75264f17b15f418d3aec44", checked := Try.checked }
namespace Rows
def none {H : Type} : Left H := { results := [], args := [] }

/-- 'laws.FnExactLstOk': WHATEVER THE INPUT: true; the input reads as it did. -/
def fnExactLstOkSpec : ChangeSpec := { name := "fnExactLstOk", fn := fun _ => fun
  | [d] => { results := [.lit (.bool true)], args := [d] }
  | _ => none }
def fnExactLstOkRow : OpenClaim := { program := "ytpfgelfmhhnbaaa", sum := "b7686227f490a201528bbdea5933b813fba89720cf75264f17b15f418d3aec44", func := "loop.example/selvedge/laws.FnExactLstOk", spec := "fnExactLstOk", plainKeys := false, apart := false }
def FnExactLstOkSaid : Prop := fnExactLstOkRow.holds Try.pinned (OpenSpec.ofChange fnExactLstOkSpec)

/-- ITS FALSE NEIGHBOUR: 'it returns false'. Refute it at one input. -/
def fnExactLstOkWrong : ChangeSpec := { name := "fnExactLstOk", fn := fun _ => fun
  | [d] => { results := [.lit (.bool false)], args := [d] }
  | _ => none }
def FnExactLstOkWrongFalsely : Prop := fnExactLstOkRow.holds Try.pinned (OpenSpec.ofChange fnExactLstOkWrong)

/-- 'laws.FnExactRedFree': WHATEVER THE INPUT: true; the input reads as it did. -/
def fnExactRedFreeSpec : ChangeSpec := { name := "fnExactRedFree", fn := fun _ => fun
  | [d1, d2, d3] => { results := [.lit (.bool true)], args := [d1, d2, d3] }
  | _ => none }
def fnExactRedFreeRow : OpenClaim := { program := "ytpfgelfmhhnbaaa", sum := "b7686227f490a201528bbdea5933b813fba89720cf75264f17b15f418d3aec44", func := "loop.example/selvedge/laws.FnExactRedFree", spec := "fnExactRedFree", unfollowed := true, recurses := true, plainKeys := false, apart := false }
def FnExactRedFreeSaid : Prop := fnExactRedFreeRow.holds Try.pinned (OpenSpec.ofChange fnExactRedFreeSpec)

/-- ITS FALSE NEIGHBOUR: 'it returns false'. Refute it at one input. -/
def fnExactRedFreeWrong : ChangeSpec := { name := "fnExactRedFree", fn := fun _ => fun
  | [d1, d2, d3] => { results := [.lit (.bool false)], args := [d1, d2, d3] }
  | _ => none }
def FnExactRedFreeWrongFalsely : Prop := fnExactRedFreeRow.holds Try.pinned (OpenSpec.ofChange fnExactRedFreeWrong)

/-- 'laws.FnExactRedSum': WHATEVER THE INPUT: true; the input reads as it did. -/
def fnExactRedSumSpec : ChangeSpec := { name := "fnExactRedSum", fn := fun _ => fun
  | [d1, d2] => { results := [.lit (.bool true)], args := [d1, d2] }
  | _ => none }
def fnExactRedSumRow : OpenClaim := { program := "ytpfgelfmhhnbaaa", sum := "b7686227f490a201528bbdea5933b813fba89720cf75264f17b15f418d3aec44", func := "loop.example/selvedge/laws.FnExactRedSum", spec := "fnExactRedSum", unfollowed := true, recurses := true, plainKeys := false, apart := false }
def FnExactRedSumSaid : Prop := fnExactRedSumRow.holds Try.pinned (OpenSpec.ofChange fnExactRedSumSpec)

/-- ITS FALSE NEIGHBOUR: 'it returns false'. Refute it at one input. -/
def fnExactRedSumWrong : ChangeSpec := { name := "fnExactRedSum", fn := fun _ => fun
  | [d1, d2] => { results := [.lit (.bool false)], args := [d1, d2] }
  | _ => none }
def FnExactRedSumWrongFalsely : Prop := fnExactRedSumRow.holds Try.pinned (OpenSpec.ofChange fnExactRedSumWrong)

/-- 'laws.FnLstOk': WHATEVER THE INPUT: true; the input reads as it did. -/
def fnLstOkSpec : ChangeSpec := { name := "fnLstOk", fn := fun _ => fun
  | [d] => { results := [.lit (.bool true)], args := [d] }
  | _ => none }
def fnLstOkRow : OpenClaim := { program := "ytpfgelfmhhnbaaa", sum := "b7686227f490a201528bbdea5933b813fba89720cf75264f17b15f418d3aec44", func := "loop.example/selvedge/laws.FnLstOk", spec := "fnLstOk", plainKeys := false, apart := false }
def FnLstOkSaid : Prop := fnLstOkRow.holds Try.pinned (OpenSpec.ofChange fnLstOkSpec)

/-- ITS FALSE NEIGHBOUR: 'it returns false'. Refute it at one input. -/
def fnLstOkWrong : ChangeSpec := { name := "fnLstOk", fn := fun _ => fun
  | [d] => { results := [.lit (.bool false)], args := [d] }
  | _ => none }
def FnLstOkWrongFalsely : Prop := fnLstOkRow.holds Try.pinned (OpenSpec.ofChange fnLstOkWrong)

/-- 'laws.FnRedSum': WHATEVER THE INPUT: true; the input reads as it did. -/
def fnRedSumSpec : ChangeSpec := { name := "fnRedSum", fn := fun _ => fun
  | [d] => { results := [.lit (.bool true)], args := [d] }
  | _ => none }
def fnRedSumRow : OpenClaim := { program := "ytpfgelfmhhnbaaa", sum := "b7686227f490a201528bbdea5933b813fba89720cf75264f17b15f418d3aec44", func := "loop.example/selvedge/laws.FnRedSum", spec := "fnRedSum", unfollowed := true, recurses := true, plainKeys := false, apart := false }
def FnRedSumSaid : Prop := fnRedSumRow.holds Try.pinned (OpenSpec.ofChange fnRedSumSpec)

/-- ITS FALSE NEIGHBOUR: 'it returns false'. Refute it at one input. -/
def fnRedSumWrong : ChangeSpec := { name := "fnRedSum", fn := fun _ => fun
  | [d] => { results := [.lit (.bool false)], args := [d] }
  | _ => none }
def FnRedSumWrongFalsely : Prop := fnRedSumRow.holds Try.pinned (OpenSpec.ofChange fnRedSumWrong)

/- THE SECOND FORM. 'bulk': how many values and letters a reading holds, each counted each time it is reached (what is shared counts as often as it is met; a slice's spare places count too). A statement '..UptoSaid' is the law's where the arguments, and the package variables that the reading takes, are together of bulk at most 1048576: NARROWER than '..Said'. Prove '..Said' where nothing that the law and all that it calls make is longer than what came in: it says more and counts as full. Else prove '..UptoSaid'. A law counts once. -/
mutual
def uptoBulk {H : Type} : DataW H → Nat
  | .lit (.string bytes) => bytes.length + 1
  | .lit _ => 1
  | .nil => 1
  | .ptr d => uptoBulk d + 1
  | .slice elems spare => uptoBulkAll elems + uptoBulkAll spare + 1
  | .agg parts => uptoBulkAll parts + 1
  | .iface _ d => uptoBulk d + 1
  | .map entries => uptoBulkEntries entries + 1
  | .held _ => 1
def uptoBulkAll {H : Type} : List (DataW H) → Nat
  | [] => 0
  | d :: r => uptoBulk d + uptoBulkAll r
def uptoBulkEntries {H : Type} : List (Lit × DataW H) → Nat
  | [] => 0
  | x :: r => uptoBulkEntry x + uptoBulkEntries r
def uptoBulkEntry {H : Type} : Lit × DataW H → Nat
  | (.string bytes, d) => bytes.length + uptoBulk d + 1
  | (_, d) => uptoBulk d + 1
 end
def uptoSmall : (H : Type) → List (DataW H) → Bool := fun _ ds => decide (uptoBulkAll ds ≤ 1048576)
def OpenSpec.upto (s : _root_.Go.ChangeSpec) : _root_.Go.OpenSpec := { _root_.Go.OpenSpec.ofChange s with cond := some uptoSmall }

/-- 'laws.FnExactLstOk', WHERE WHAT IT READS IS OF BULK AT MOST 1048576: true; the input reads as it did. -/
def fnExactLstOkUptoRow : OpenClaim := { program := "ytpfgelfmhhnbaaa", sum := "b7686227f490a201528bbdea5933b813fba89720cf75264f17b15f418d3aec44", func := "loop.example/selvedge/laws.FnExactLstOk", spec := "fnExactLstOk", plainKeys := false, apart := false, narrowed := true }
def FnExactLstOkUptoSaid : Prop := fnExactLstOkUptoRow.holds Try.pinned (OpenSpec.upto fnExactLstOkSpec)

/-- 'laws.FnExactRedFree', WHERE WHAT IT READS IS OF BULK AT MOST 1048576: true; the input reads as it did. -/
def fnExactRedFreeUptoRow : OpenClaim := { program := "ytpfgelfmhhnbaaa", sum := "b7686227f490a201528bbdea5933b813fba89720cf75264f17b15f418d3aec44", func := "loop.example/selvedge/laws.FnExactRedFree", spec := "fnExactRedFree", unfollowed := true, recurses := true, plainKeys := false, apart := false, narrowed := true }
def FnExactRedFreeUptoSaid : Prop := fnExactRedFreeUptoRow.holds Try.pinned (OpenSpec.upto fnExactRedFreeSpec)

/-- 'laws.FnExactRedSum', WHERE WHAT IT READS IS OF BULK AT MOST 1048576: true; the input reads as it did. -/
def fnExactRedSumUptoRow : OpenClaim := { program := "ytpfgelfmhhnbaaa", sum := "b7686227f490a201528bbdea5933b813fba89720cf75264f17b15f418d3aec44", func := "loop.example/selvedge/laws.FnExactRedSum", spec := "fnExactRedSum", unfollowed := true, recurses := true, plainKeys := false, apart := false, narrowed := true }
def FnExactRedSumUptoSaid : Prop := fnExactRedSumUptoRow.holds Try.pinned (OpenSpec.upto fnExactRedSumSpec)

/-- 'laws.FnLstOk', WHERE WHAT IT READS IS OF BULK AT MOST 1048576: true; the input reads as it did. -/
def fnLstOkUptoRow : OpenClaim := { program := "ytpfgelfmhhnbaaa", sum := "b7686227f490a201528bbdea5933b813fba89720cf75264f17b15f418d3aec44", func := "loop.example/selvedge/laws.FnLstOk", spec := "fnLstOk", plainKeys := false, apart := false, narrowed := true }
def FnLstOkUptoSaid : Prop := fnLstOkUptoRow.holds Try.pinned (OpenSpec.upto fnLstOkSpec)

/-- 'laws.FnRedSum', WHERE WHAT IT READS IS OF BULK AT MOST 1048576: true; the input reads as it did. -/
def fnRedSumUptoRow : OpenClaim := { program := "ytpfgelfmhhnbaaa", sum := "b7686227f490a201528bbdea5933b813fba89720cf75264f17b15f418d3aec44", func := "loop.example/selvedge/laws.FnRedSum", spec := "fnRedSum", unfollowed := true, recurses := true, plainKeys := false, apart := false, narrowed := true }
def FnRedSumUptoSaid : Prop := fnRedSumUptoRow.holds Try.pinned (OpenSpec.upto fnRedSumSpec)

end Rows
end Go.Proofs.Ytpfgelfmhhnbaaa
