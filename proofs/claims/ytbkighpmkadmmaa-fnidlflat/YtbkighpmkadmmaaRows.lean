/-
  No cell of these rows narrows 'for every input' (looked for: loops, veiled, ifaces, maps, wideKeys, modest, calm, conditions, laid).
  DERIVED. THE GIVEN ROWS OF THIS SEAT. 6 by the template 'for every input the law returns true; each argument reads behind the call as it read before'; 0 by the template 'total and deterministic' (their statements: YtbkighpmkadmmaaTotals.lean).
  GIVEN WITH THE SEED: the statements are not yours to turn. If you find one false, say at which input.
  Laid BY PROGRAM, IN A SANDBOX (cutbox-rows.mjs): the forced cells as the released guide's own fill.sh prints them over the translation 225577711b3c8114… (all of the seat's roots in one cut). By AI agents, Wed Nov 11 2026. No macro, syntax, notation, axiom, sorry.
-/
import Derived.Test.YtbkighpmkadmmaaChecked
import GoSem.Claim
import GoSem.ClaimJoined
import GoSem.ClaimMapViews
import Derived.JoinedTies
import Derived.KernelRfl
namespace Go.Proofs.Ytbkighpmkadmmaa
/- THE CELL 'sum', in the pinned program and in every row, IS THE sha256 OF THE DUMP (.gsa) THAT YtbkighpmkadmmaaProg.lean LOADS. Nothing in Lean hashes anything: it is a label: what it is worth is what the hold of that sum in a sandbox is worth. -/
noncomputable def Try.pinned : Pinned := { name := "ytbkighpmkadmmaa", sum := "225577711b3c8114a85f1f30e05c1748d3215076ef35549007339264b4688c4b", checked := Try.checked }
namespace Rows
def none {H : Type} : Left H := { results := [], args := [] }

/-- 'laws.FnIdlRest': WHATEVER THE INPUT: true; the input reads as it did. -/
def fnIdlRestSpec : ChangeSpec := { name := "fnIdlRest", fn := fun _ => fun
  | [d] => { results := [.lit (.bool true)], args := [d] }
  | _ => none }
def fnIdlRestRow : OpenClaim := { program := "ytbkighpmkadmmaa", sum := "225577711b3c8114a85f1f30e05c1748d3215076ef35549007339264b4688c4b", func := "loop.example/selvedge/laws.FnIdlRest", spec := "fnIdlRest", unfollowed := true, recurses := true, plainKeys := false, apart := false }
def FnIdlRestSaid : Prop := fnIdlRestRow.holds Try.pinned (OpenSpec.ofChange fnIdlRestSpec)

/-- ITS FALSE NEIGHBOUR: 'it returns false'. Refute it at one input. -/
def fnIdlRestWrong : ChangeSpec := { name := "fnIdlRest", fn := fun _ => fun
  | [d] => { results := [.lit (.bool false)], args := [d] }
  | _ => none }
def FnIdlRestWrongFalsely : Prop := fnIdlRestRow.holds Try.pinned (OpenSpec.ofChange fnIdlRestWrong)

/-- 'laws.FnIdlFlat': WHATEVER THE INPUT: true; the input reads as it did. -/
def fnIdlFlatSpec : ChangeSpec := { name := "fnIdlFlat", fn := fun _ => fun
  | [d] => { results := [.lit (.bool true)], args := [d] }
  | _ => none }
def fnIdlFlatRow : OpenClaim := { program := "ytbkighpmkadmmaa", sum := "225577711b3c8114a85f1f30e05c1748d3215076ef35549007339264b4688c4b", func := "loop.example/selvedge/laws.FnIdlFlat", spec := "fnIdlFlat", unfollowed := true, recurses := true, plainKeys := false, apart := false }
def FnIdlFlatSaid : Prop := fnIdlFlatRow.holds Try.pinned (OpenSpec.ofChange fnIdlFlatSpec)

/-- ITS FALSE NEIGHBOUR: 'it returns false'. Refute it at one input. -/
def fnIdlFlatWrong : ChangeSpec := { name := "fnIdlFlat", fn := fun _ => fun
  | [d] => { results := [.lit (.bool false)], args := [d] }
  | _ => none }
def FnIdlFlatWrongFalsely : Prop := fnIdlFlatRow.holds Try.pinned (OpenSpec.ofChange fnIdlFlatWrong)

/-- 'laws.FnRedFree': WHATEVER THE INPUT: true; the input reads as it did. -/
def fnRedFreeSpec : ChangeSpec := { name := "fnRedFree", fn := fun _ => fun
  | [d] => { results := [.lit (.bool true)], args := [d] }
  | _ => none }
def fnRedFreeRow : OpenClaim := { program := "ytbkighpmkadmmaa", sum := "225577711b3c8114a85f1f30e05c1748d3215076ef35549007339264b4688c4b", func := "loop.example/selvedge/laws.FnRedFree", spec := "fnRedFree", unfollowed := true, recurses := true, plainKeys := false, apart := false }
def FnRedFreeSaid : Prop := fnRedFreeRow.holds Try.pinned (OpenSpec.ofChange fnRedFreeSpec)

/-- ITS FALSE NEIGHBOUR: 'it returns false'. Refute it at one input. -/
def fnRedFreeWrong : ChangeSpec := { name := "fnRedFree", fn := fun _ => fun
  | [d] => { results := [.lit (.bool false)], args := [d] }
  | _ => none }
def FnRedFreeWrongFalsely : Prop := fnRedFreeRow.holds Try.pinned (OpenSpec.ofChange fnRedFreeWrong)

/-- 'laws.FnRedSum': WHATEVER THE INPUT: true; the input reads as it did. -/
def fnRedSumSpec : ChangeSpec := { name := "fnRedSum", fn := fun _ => fun
  | [d] => { results := [.lit (.bool true)], args := [d] }
  | _ => none }
def fnRedSumRow : OpenClaim := { program := "ytbkighpmkadmmaa", sum := "225577711b3c8114a85f1f30e05c1748d3215076ef35549007339264b4688c4b", func := "loop.example/selvedge/laws.FnRedSum", spec := "fnRedSum", unfollowed := true, recurses := true, plainKeys := false, apart := false }
def FnRedSumSaid : Prop := fnRedSumRow.holds Try.pinned (OpenSpec.ofChange fnRedSumSpec)

/-- ITS FALSE NEIGHBOUR: 'it returns false'. Refute it at one input. -/
def fnRedSumWrong : ChangeSpec := { name := "fnRedSum", fn := fun _ => fun
  | [d] => { results := [.lit (.bool false)], args := [d] }
  | _ => none }
def FnRedSumWrongFalsely : Prop := fnRedSumRow.holds Try.pinned (OpenSpec.ofChange fnRedSumWrong)

/-- 'laws.FnSprTerms': WHATEVER THE INPUT: true; the input reads as it did. -/
def fnSprTermsSpec : ChangeSpec := { name := "fnSprTerms", fn := fun _ => fun
  | [d] => { results := [.lit (.bool true)], args := [d] }
  | _ => none }
def fnSprTermsRow : OpenClaim := { program := "ytbkighpmkadmmaa", sum := "225577711b3c8114a85f1f30e05c1748d3215076ef35549007339264b4688c4b", func := "loop.example/selvedge/laws.FnSprTerms", spec := "fnSprTerms", unfollowed := true, recurses := true, plainKeys := false, apart := false }
def FnSprTermsSaid : Prop := fnSprTermsRow.holds Try.pinned (OpenSpec.ofChange fnSprTermsSpec)

/-- ITS FALSE NEIGHBOUR: 'it returns false'. Refute it at one input. -/
def fnSprTermsWrong : ChangeSpec := { name := "fnSprTerms", fn := fun _ => fun
  | [d] => { results := [.lit (.bool false)], args := [d] }
  | _ => none }
def FnSprTermsWrongFalsely : Prop := fnSprTermsRow.holds Try.pinned (OpenSpec.ofChange fnSprTermsWrong)

/-- 'laws.FnWylAssoc': WHATEVER THE INPUT: true; the input reads as it did. -/
def fnWylAssocSpec : ChangeSpec := { name := "fnWylAssoc", fn := fun _ => fun
  | [d1, d2] => { results := [.lit (.bool true)], args := [d1, d2] }
  | _ => none }
def fnWylAssocRow : OpenClaim := { program := "ytbkighpmkadmmaa", sum := "225577711b3c8114a85f1f30e05c1748d3215076ef35549007339264b4688c4b", func := "loop.example/selvedge/laws.FnWylAssoc", spec := "fnWylAssoc", unfollowed := true, recurses := true, plainKeys := false, apart := false }
def FnWylAssocSaid : Prop := fnWylAssocRow.holds Try.pinned (OpenSpec.ofChange fnWylAssocSpec)

/-- ITS FALSE NEIGHBOUR: 'it returns false'. Refute it at one input. -/
def fnWylAssocWrong : ChangeSpec := { name := "fnWylAssoc", fn := fun _ => fun
  | [d1, d2] => { results := [.lit (.bool false)], args := [d1, d2] }
  | _ => none }
def FnWylAssocWrongFalsely : Prop := fnWylAssocRow.holds Try.pinned (OpenSpec.ofChange fnWylAssocWrong)

/- THE SECOND FORM. 'bulk': how many values and letters a reading holds, each counted each time it is reached (what is shared counts as often as it is met; a slice's spare places count too). A statement '..UptoSaid' is the law's where the arguments, and the package variables that the reading takes, are together of bulk at most 1048576: NARROWER than '..Said'. Prove '..Said' where nothing that the law and all that it calls make is longer than what came in: it says more and counts as full. Else prove '..UptoSaid'. A law counts once. -/
mutual
def uptoBulk {H : Type} : DataW H → Nat
  | .lit (.string bytes) => bytes.length + 1
  | .lit _ => 1
  | .nil => 1
  | .ptr d => uptoBulk d + 1
  | .slice elems spare => uptoBulkAll elems + uptoBulkAll spare + 1
  | .agg parts => uptoBulkAll parts + 1
  | .iface _ d => uptoBulk d + 1
  | .map entries => uptoBulkEntries entries + 1
  | .held _ => 1
def uptoBulkAll {H : Type} : List (DataW H) → Nat
  | [] => 0
  | d :: r => uptoBulk d + uptoBulkAll r
def uptoBulkEntries {H : Type} : List (Lit × DataW H) → Nat
  | [] => 0
  | x :: r => uptoBulkEntry x + uptoBulkEntries r
def uptoBulkEntry {H : Type} : Lit × DataW H → Nat
  | (.string bytes, d) => bytes.length + uptoBulk d + 1
  | (_, d) => uptoBulk d + 1
 end
def uptoSmall : (H : Type) → List (DataW H) → Bool := fun _ ds => decide (uptoBulkAll ds ≤ 1048576)
def OpenSpec.upto (s : _root_.Go.ChangeSpec) : _root_.Go.OpenSpec := { _root_.Go.OpenSpec.ofChange s with cond := some uptoSmall }

/-- 'laws.FnIdlRest', WHERE WHAT IT READS IS OF BULK AT MOST 1048576: true; the input reads as it did. -/
def fnIdlRestUptoRow : OpenClaim := { program := "ytbkighpmkadmmaa", sum := "225577711b3c8114a85f1f30e05c1748d3215076ef35549007339264b4688c4b", func := "loop.example/selvedge/laws.FnIdlRest", spec := "fnIdlRest", unfollowed := true, recurses := true, plainKeys := false, apart := false, narrowed := true }
def FnIdlRestUptoSaid : Prop := fnIdlRestUptoRow.holds Try.pinned (OpenSpec.upto fnIdlRestSpec)

/-- 'laws.FnIdlFlat', WHERE WHAT IT READS IS OF BULK AT MOST 1048576: true; the input reads as it did. -/
def fnIdlFlatUptoRow : OpenClaim := { program := "ytbkighpmkadmmaa", sum := "225577711b3c8114a85f1f30e05c1748d3215076ef35549007339264b4688c4b", func := "loop.example/selvedge/laws.FnIdlFlat", spec := "fnIdlFlat", unfollowed := true, recurses := true, plainKeys := false, apart := false, narrowed := true }
def FnIdlFlatUptoSaid : Prop := fnIdlFlatUptoRow.holds Try.pinned (OpenSpec.upto fnIdlFlatSpec)

/-- 'laws.FnRedFree', WHERE WHAT IT READS IS OF BULK AT MOST 1048576: true; the input reads as it did. -/
def fnRedFreeUptoRow : OpenClaim := { program := "ytbkighpmkadmmaa", sum := "225577711b3c8114a85f1f30e05c1748d3215076ef35549007339264b4688c4b", func := "loop.example/selvedge/laws.FnRedFree", spec := "fnRedFree", unfollowed := true, recurses := true, plainKeys := false, apart := false, narrowed := true }
def FnRedFreeUptoSaid : Prop := fnRedFreeUptoRow.holds Try.pinned (OpenSpec.upto fnRedFreeSpec)

/-- 'laws.FnRedSum', WHERE WHAT IT READS IS OF BULK AT MOST 1048576: true; the input reads as it did. -/
def fnRedSumUptoRow : OpenClaim := { program := "ytbkighpmkadmmaa", sum := "225577711b3c8114a85f1f30e05c1748d3215076ef35549007339264b4688c4b", func := "loop.example/selvedge/laws.FnRedSum", spec := "fnRedSum", unfollowed := true, recurses := true, plainKeys := false, apart := false, narrowed := true }
def FnRedSumUptoSaid : Prop := fnRedSumUptoRow.holds Try.pinned (OpenSpec.upto fnRedSumSpec)

/-- 'laws.FnSprTerms', WHERE WHAT IT READS IS OF BULK AT MOST 1048576: true; the input reads as it did. -/
def fnSprTermsUptoRow : OpenClaim := { program := "ytbkighpmkadmmaa", sum := "225577711b3c8114a85f1f30e05c1748d3215076ef35549007339264b4688c4b", func := "loop.example/selvedge/laws.FnSprTerms", spec := "fnSprTerms", unfollowed := true, recurses := true, plainKeys := false, apart := false, narrowed := true }
def FnSprTermsUptoSaid : Prop := fnSprTermsUptoRow.holds Try.pinned (OpenSpec.upto fnSprTermsSpec)

/-- 'laws.FnWylAssoc', WHERE WHAT IT READS IS OF BULK AT MOST 1048576: true; the input reads as it did. -/
def fnWylAssocUptoRow : OpenClaim := { program := "ytbkighpmkadmmaa", sum := "225577711b3c8114a85f1f30e05c1748d3215076ef35549007339264b4688c4b", func := "loop.example/selvedge/laws.FnWylAssoc", spec := "fnWylAssoc", unfollowed := true, recurses := true, plainKeys := false, apart := false, narrowed := true }
def FnWylAssocUptoSaid : Prop := fnWylAssocUptoRow.holds Try.pinned (OpenSpec.upto fnWylAssocSpec)

end Rows
end Go.Proofs.Ytbkighpmkadmmaa
