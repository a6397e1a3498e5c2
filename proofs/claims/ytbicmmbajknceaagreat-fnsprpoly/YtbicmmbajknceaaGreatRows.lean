/-
  No cell of these rows narrows 'for every input' (looked for: loops, veiled, ifaces, maps, wideKeys, modest, calm, conditions, laid).
  DERIVED. THE GIVEN ROWS OF THIS SEAT. 4 by the template 'for every input the law returns true; each argument reads behind the call as it read before'; 0 by the template 'total and deterministic' (their statements: YtbicmmbajknceaaGreatTotals.lean).
  GIVEN WITH THE SEED: the statements are not yours to turn. If you find one false, say at which input.
  Laid BY PROGRAM, IN A SANDBOX (cutbox-rows.mjs): the forced cells as the released guide's own fill.sh prints them over the translation 9b951a8c6d0ba409… (all of the seat's roots in one cut). By AI agents, Wed Nov 11 2026. No macro, syntax, notation, axiom, sorry.
-/
import Derived.Test.YtbicmmbajknceaaGreatChecked
import GoSem.Claim
import GoSem.ClaimJoined
import GoSem.ClaimMapViews
import Derived.JoinedTies
import Derived.KernelRfl
namespace Go.Proofs.YtbicmmbajknceaaGreat
/- THE CELL 'sum', in the pinned program and in every row, IS THE sha256 OF THE DUMP (.gsa) THAT YtbicmmbajknceaaGreatProg.lean LOADS. Nothing in Lean hashes anything: it is a label: what it is worth is what the hold of that sum in a sandbox is worth. -/
noncomputable def Tryz.pinned : Pinned := { name := "ytbicmmbajknceaagreat", sum := "9b951a8c6d0ba4093b9cca12ed4b69225a7253b92bd04953be66e0bdd6b33586", checked := Tryz.checked }
namespace Rows
def none {H : Type} : Left H := { results := [], args := [] }

/-- 'laws.FnSprPoly': WHATEVER THE INPUT: true; the input reads as it did. -/
def fnSprPolySpec : ChangeSpec := { name := "fnSprPoly", fn := fun _ => fun
  | [d] => { results := [.lit (.bool true)], args := [d] }
  | _ => none }
def fnSprPolyRow : OpenClaim := { program := "ytbicmmbajknceaagreat", sum := "9b951a8c6d0ba4093b9cca12ed4b69225a7253b92bd04953be66e0bdd6b33586", func := "loop.example/selvedge/laws.FnSprPoly", spec := "fnSprPoly", unfollowed := true, recurses := true, plainKeys := false, apart := false }
def FnSprPolySaid : Prop := fnSprPolyRow.holds Tryz.pinned (OpenSpec.ofChange fnSprPolySpec)

/-- ITS FALSE NEIGHBOUR: 'it returns false'. Refute it at one input. -/
def fnSprPolyWrong : ChangeSpec := { name := "fnSprPoly", fn := fun _ => fun
  | [d] => { results := [.lit (.bool false)], args := [d] }
  | _ => none }
def FnSprPolyWrongFalsely : Prop := fnSprPolyRow.holds Tryz.pinned (OpenSpec.ofChange fnSprPolyWrong)

/-- 'laws.FnGrbProves': WHATEVER THE INPUT: true; the input reads as it did. -/
def fnGrbProvesSpec : ChangeSpec := { name := "fnGrbProves", fn := fun _ => fun
  | [d] => { results := [.lit (.bool true)], args := [d] }
  | _ => none }
def fnGrbProvesRow : OpenClaim := { program := "ytbicmmbajknceaagreat", sum := "9b951a8c6d0ba4093b9cca12ed4b69225a7253b92bd04953be66e0bdd6b33586", func := "loop.example/selvedge/laws.FnGrbProves", spec := "fnGrbProves", unfollowed := true, recurses := true, plainKeys := false, apart := false }
def FnGrbProvesSaid : Prop := fnGrbProvesRow.holds Tryz.pinned (OpenSpec.ofChange fnGrbProvesSpec)

/-- ITS FALSE NEIGHBOUR: 'it returns false'. Refute it at one input. -/
def fnGrbProvesWrong : ChangeSpec := { name := "fnGrbProves", fn := fun _ => fun
  | [d] => { results := [.lit (.bool false)], args := [d] }
  | _ => none }
def FnGrbProvesWrongFalsely : Prop := fnGrbProvesRow.holds Tryz.pinned (OpenSpec.ofChange fnGrbProvesWrong)

/-- 'laws.FnExactGrbOk': WHATEVER THE INPUT: true; the input reads as it did. -/
def fnExactGrbOkSpec : ChangeSpec := { name := "fnExactGrbOk", fn := fun _ => fun
  | [d1, d2] => { results := [.lit (.bool true)], args := [d1, d2] }
  | _ => none }
def fnExactGrbOkRow : OpenClaim := { program := "ytbicmmbajknceaagreat", sum := "9b951a8c6d0ba4093b9cca12ed4b69225a7253b92bd04953be66e0bdd6b33586", func := "loop.example/selvedge/laws.FnExactGrbOk", spec := "fnExactGrbOk", unfollowed := true, recurses := true, plainKeys := false, apart := false }
def FnExactGrbOkSaid : Prop := fnExactGrbOkRow.holds Tryz.pinned (OpenSpec.ofChange fnExactGrbOkSpec)

/-- ITS FALSE NEIGHBOUR: 'it returns false'. Refute it at one input. -/
def fnExactGrbOkWrong : ChangeSpec := { name := "fnExactGrbOk", fn := fun _ => fun
  | [d1, d2] => { results := [.lit (.bool false)], args := [d1, d2] }
  | _ => none }
def FnExactGrbOkWrongFalsely : Prop := fnExactGrbOkRow.holds Tryz.pinned (OpenSpec.ofChange fnExactGrbOkWrong)

/-- 'laws.FnExactGrbMake': WHATEVER THE INPUT: true; the input reads as it did. -/
def fnExactGrbMakeSpec : ChangeSpec := { name := "fnExactGrbMake", fn := fun _ => fun
  | [d1, d2, d3] => { results := [.lit (.bool true)], args := [d1, d2, d3] }
  | _ => none }
def fnExactGrbMakeRow : OpenClaim := { program := "ytbicmmbajknceaagreat", sum := "9b951a8c6d0ba4093b9cca12ed4b69225a7253b92bd04953be66e0bdd6b33586", func := "loop.example/selvedge/laws.FnExactGrbMake", spec := "fnExactGrbMake", unfollowed := true, recurses := true, plainKeys := false, apart := false }
def FnExactGrbMakeSaid : Prop := fnExactGrbMakeRow.holds Tryz.pinned (OpenSpec.ofChange fnExactGrbMakeSpec)

/-- ITS FALSE NEIGHBOUR: 'it returns false'. Refute it at one input. -/
def fnExactGrbMakeWrong : ChangeSpec := { name := "fnExactGrbMake", fn := fun _ => fun
  | [d1, d2, d3] => { results := [.lit (.bool false)], args := [d1, d2, d3] }
  | _ => none }
def FnExactGrbMakeWrongFalsely : Prop := fnExactGrbMakeRow.holds Tryz.pinned (OpenSpec.ofChange fnExactGrbMakeWrong)

/- THE SECOND FORM. 'bulk': how many values and letters a reading holds, each counted each time it is reached (what is shared counts as often as it is met; a slice's spare places count too). A statement '..UptoSaid' is the law's where the arguments, and the package variables that the reading takes, are together of bulk at most 1048576: NARROWER than '..Said'. Prove '..Said' where nothing that the law and all that it calls make is longer than what came in: it says more and counts as full. Else prove '..UptoSaid'. A law counts once. -/
mutual
def uptoBulk {H : Type} : DataW H → Nat
  | .lit (.string bytes) => bytes.length + 1
  | .lit _ => 1
  | .nil => 1
  | .ptr d => uptoBulk d + 1
  | .slice elems spare => uptoBulkAll elems + uptoBulkAll spare + 1
  | .agg parts => uptoBulkAll parts + 1
  | .iface _ d => uptoBulk d + 1
  | .map entries => uptoBulkEntries entries + 1
  | .held _ => 1
def uptoBulkAll {H : Type} : List (DataW H) → Nat
  | [] => 0
  | d :: r => uptoBulk d + uptoBulkAll r
def uptoBulkEntries {H : Type} : List (Lit × DataW H) → Nat
  | [] => 0
  | x :: r => uptoBulkEntry x + uptoBulkEntries r
def uptoBulkEntry {H : Type} : Lit × DataW H → Nat
  | (.string bytes, d) => bytes.length + uptoBulk d + 1
  | (_, d) => uptoBulk d + 1
 end
def uptoSmall : (H : Type) → List (DataW H) → Bool := fun _ ds => decide (uptoBulkAll ds ≤ 1048576)
def OpenSpec.upto (s : _root_.Go.ChangeSpec) : _root_.Go.OpenSpec := { _root_.Go.OpenSpec.ofChange s with cond := some uptoSmall }

/-- 'laws.FnSprPoly', WHERE WHAT IT READS IS OF BULK AT MOST 1048576: true; the input reads as it did. -/
def fnSprPolyUptoRow : OpenClaim := { program := "ytbicmmbajknceaagreat", sum := "9b951a8c6d0ba4093b9cca12ed4b69225a7253b92bd04953be66e0bdd6b33586", func := "loop.example/selvedge/laws.FnSprPoly", spec := "fnSprPoly", unfollowed := true, recurses := true, plainKeys := false, apart := false, narrowed := true }
def FnSprPolyUptoSaid : Prop := fnSprPolyUptoRow.holds Tryz.pinned (OpenSpec.upto fnSprPolySpec)

/-- 'laws.FnGrbProves', WHERE WHAT IT READS IS OF BULK AT MOST 1048576: true; the input reads as it did. -/
def fnGrbProvesUptoRow : OpenClaim := { program := "ytbicmmbajknceaagreat", sum := "9b951a8c6d0ba4093b9cca12ed4b69225a7253b92bd04953be66e0bdd6b33586", func := "loop.example/selvedge/laws.FnGrbProves", spec := "fnGrbProves", unfollowed := true, recurses := true, plainKeys := false, apart := false, narrowed := true }
def FnGrbProvesUptoSaid : Prop := fnGrbProvesUptoRow.holds Tryz.pinned (OpenSpec.upto fnGrbProvesSpec)

/-- 'laws.FnExactGrbOk', WHERE WHAT IT READS IS OF BULK AT MOST 1048576: true; the input reads as it did. -/
def fnExactGrbOkUptoRow : OpenClaim := { program := "ytbicmmbajknceaagreat", sum := "9b951a8c6d0ba4093b9cca12ed4b69225a7253b92bd04953be66e0bdd6b33586", func := "loop.example/selvedge/laws.FnExactGrbOk", spec := "fnExactGrbOk", unfollowed := true, recurses := true, plainKeys := false, apart := false, narrowed := true }
def FnExactGrbOkUptoSaid : Prop := fnExactGrbOkUptoRow.holds Tryz.pinned (OpenSpec.upto fnExactGrbOkSpec)

/-- 'laws.FnExactGrbMake', WHERE WHAT IT READS IS OF BULK AT MOST 1048576: true; the input reads as it did. -/
def fnExactGrbMakeUptoRow : OpenClaim := { program := "ytbicmmbajknceaagreat", sum := "9b951a8c6d0ba4093b9cca12ed4b69225a7253b92bd04953be66e0bdd6b33586", func := "loop.example/selvedge/laws.FnExactGrbMake", spec := "fnExactGrbMake", unfollowed := true, recurses := true, plainKeys := false, apart := false, narrowed := true }
def FnExactGrbMakeUptoSaid : Prop := fnExactGrbMakeUptoRow.holds Tryz.pinned (OpenSpec.upto fnExactGrbMakeSpec)

end Rows
end Go.Proofs.YtbicmmbajknceaaGreat
