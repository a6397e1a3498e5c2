/-
  No cell of these rows narrows 'for every input' (looked for: loops, veiled, ifaces, maps, wideKeys, modest, calm, conditions, laid).
  DERIVED. THE GIVEN ROWS OF THIS SEAT. 4 by the template 'for every input the law returns true; each argument reads behind the call as it read before'; 0 by the template 'total and deterministic' (their statements: YtelkehjdfcoeiaaGreatTotals.lean).
  GIVEN WITH THE SEED: the statements are not yours to turn. If you find one false, say at which input.
  Laid BY PROGRAM, IN A SANDBOX (cutbox-rows.mjs): the forced cells as the released guide's own fill.sh prints them over the translation 8fbbeb4e26259829… (all of the seat's roots in one cut). By AI agents, Wed Nov 11 2026. No macro, syntax, notation, axiom, sorry.
-/
import Derived.Test.YtelkehjdfcoeiaaGreatChecked
import GoSem.Claim
import GoSem.ClaimJoined
import GoSem.ClaimMapViews
import Derived.JoinedTies
import Derived.KernelRfl
namespace Go.Proofs.YtelkehjdfcoeiaaGreat
/- THE CELL 'sum', in the pinned program and in every row, IS THE sha256 OF THE DUMP (.gsa) THAT YtelkehjdfcoeiaaGreatProg.lean LOADS. Nothing in Lean hashes anything: it is a label: what it is worth is what the hold of that sum in a sandbox is worth. -/
noncomputable def Tryz.pinned : Pinned := { name := "ytelkehjdfcoeiaagreat", sum := "8fbbeb4e26259829b6304022b877126e21c6f34d690fe4325a09aabe7a8aefa9", checked := Tryz.checked }
namespace Rows
def none {H : Type} : Left H := { results := [], args := [] }

/-- 'laws.FnExactGrbMake': WHATEVER THE INPUT: true; the input reads as it did. -/
def fnExactGrbMakeSpec : ChangeSpec := { name := "fnExactGrbMake", fn := fun _ => fun
  | [d1, d2, d3] => { results := [.lit (.bool true)], args := [d1, d2, d3] }
  | _ => none }
def fnExactGrbMakeRow : OpenClaim := { program := "ytelkehjdfcoeiaagreat", sum := "8fbbeb4e26259829b6304022b877126e21c6f34d690fe4325a09aabe7a8aefa9", func := "loop.example/selvedge/laws.FnExactGrbMake", spec := "fnExactGrbMake", unfollowed := true, recurses := true, plainKeys := false, apart := false }
def FnExactGrbMakeSaid : Prop := fnExactGrbMakeRow.holds Tryz.pinned (OpenSpec.ofChange fnExactGrbMakeSpec)

/-- ITS FALSE NEIGHBOUR: 'it returns false'. Refute it at one input. -/
def fnExactGrbMakeWrong : ChangeSpec := { name := "fnExactGrbMake", fn := fun _ => fun
  | [d1, d2, d3] => { results := [.lit (.bool false)], args := [d1, d2, d3] }
  | _ => none }
def FnExactGrbMakeWrongFalsely : Prop := fnExactGrbMakeRow.holds Tryz.pinned (OpenSpec.ofChange fnExactGrbMakeWrong)

/-- 'laws.FnIdlOf': WHATEVER THE INPUT: true; the input reads as it did. -/
def fnIdlOfSpec : ChangeSpec := { name := "fnIdlOf", fn := fun _ => fun
  | [d] => { results := [.lit (.bool true)], args := [d] }
  | _ => none }
def fnIdlOfRow : OpenClaim := { program := "ytelkehjdfcoeiaagreat", sum := "8fbbeb4e26259829b6304022b877126e21c6f34d690fe4325a09aabe7a8aefa9", func := "loop.example/selvedge/laws.FnIdlOf", spec := "fnIdlOf", unfollowed := true, recurses := true, plainKeys := false, apart := false }
def FnIdlOfSaid : Prop := fnIdlOfRow.holds Tryz.pinned (OpenSpec.ofChange fnIdlOfSpec)

/-- ITS FALSE NEIGHBOUR: 'it returns false'. Refute it at one input. -/
def fnIdlOfWrong : ChangeSpec := { name := "fnIdlOf", fn := fun _ => fun
  | [d] => { results := [.lit (.bool false)], args := [d] }
  | _ => none }
def FnIdlOfWrongFalsely : Prop := fnIdlOfRow.holds Tryz.pinned (OpenSpec.ofChange fnIdlOfWrong)

/-- 'laws.FnIdlSame': WHATEVER THE INPUT: true; the input reads as it did. -/
def fnIdlSameSpec : ChangeSpec := { name := "fnIdlSame", fn := fun _ => fun
  | [d] => { results := [.lit (.bool true)], args := [d] }
  | _ => none }
def fnIdlSameRow : OpenClaim := { program := "ytelkehjdfcoeiaagreat", sum := "8fbbeb4e26259829b6304022b877126e21c6f34d690fe4325a09aabe7a8aefa9", func := "loop.example/selvedge/laws.FnIdlSame", spec := "fnIdlSame", unfollowed := true, recurses := true, plainKeys := false, apart := false }
def FnIdlSameSaid : Prop := fnIdlSameRow.holds Tryz.pinned (OpenSpec.ofChange fnIdlSameSpec)

/-- ITS FALSE NEIGHBOUR: 'it returns false'. Refute it at one input. -/
def fnIdlSameWrong : ChangeSpec := { name := "fnIdlSame", fn := fun _ => fun
  | [d] => { results := [.lit (.bool false)], args := [d] }
  | _ => none }
def FnIdlSameWrongFalsely : Prop := fnIdlSameRow.holds Tryz.pinned (OpenSpec.ofChange fnIdlSameWrong)

/-- 'laws.FnIdlGrow': WHATEVER THE INPUT: true; the input reads as it did. -/
def fnIdlGrowSpec : ChangeSpec := { name := "fnIdlGrow", fn := fun _ => fun
  | [d1, d2] => { results := [.lit (.bool true)], args := [d1, d2] }
  | _ => none }
def fnIdlGrowRow : OpenClaim := { program := "ytelkehjdfcoeiaagreat", sum := "8fbbeb4e26259829b6304022b877126e21c6f34d690fe4325a09aabe7a8aefa9", func := "loop.example/selvedge/laws.FnIdlGrow", spec := "fnIdlGrow", unfollowed := true, recurses := true, plainKeys := false, apart := false }
def FnIdlGrowSaid : Prop := fnIdlGrowRow.holds Tryz.pinned (OpenSpec.ofChange fnIdlGrowSpec)

/-- ITS FALSE NEIGHBOUR: 'it returns false'. Refute it at one input. -/
def fnIdlGrowWrong : ChangeSpec := { name := "fnIdlGrow", fn := fun _ => fun
  | [d1, d2] => { results := [.lit (.bool false)], args := [d1, d2] }
  | _ => none }
def FnIdlGrowWrongFalsely : Prop := fnIdlGrowRow.holds Tryz.pinned (OpenSpec.ofChange fnIdlGrowWrong)

/- THE SECOND FORM. 'bulk': how many values and letters a reading holds, each counted each time it is reached (what is shared counts as often as it is met; a slice's spare places count too). A statement '..UptoSaid' is the law's where the arguments, and the package variables that the reading takes, are together of bulk at most 1048576: NARROWER than '..Said'. Prove '..Said' where nothing that the law and all that it calls make is longer than what came in: it says more and counts as full. Else prove '..UptoSaid'. A law counts once. -/
mutual
def uptoBulk {H : Type} : DataW H → Nat
  | .lit (.string bytes) => bytes.length + 1
  | .lit _ => 1
  | .nil => 1
  | .ptr d => uptoBulk d + 1
  | .slice elems spare => uptoBulkAll elems + uptoBulkAll spare + 1
  | .agg parts => uptoBulkAll parts + 1
  | .iface _ d => uptoBulk d + 1
  | .map entries => uptoBulkEntries entries + 1
  | .held _ => 1
def uptoBulkAll {H : Type} : List (DataW H) → Nat
  | [] => 0
  | d :: r => uptoBulk d + uptoBulkAll r
def uptoBulkEntries {H : Type} : List (Lit × DataW H) → Nat
  | [] => 0
  | x :: r => uptoBulkEntry x + uptoBulkEntries r
def uptoBulkEntry {H : Type} : Lit × DataW H → Nat
  | (.string bytes, d) => bytes.length + uptoBulk d + 1
  | (_, d) => uptoBulk d + 1
 end
def uptoSmall : (H : Type) → List (DataW H) → Bool := fun _ ds => decide (uptoBulkAll ds ≤ 1048576)
def OpenSpec.upto (s : _root_.Go.ChangeSpec) : _root_.Go.OpenSpec := { _root_.Go.OpenSpec.ofChange s with cond := some uptoSmall }

/-- 'laws.FnExactGrbMake', WHERE WHAT IT READS IS OF BULK AT MOST 1048576: true; the input reads as it did. -/
def fnExactGrbMakeUptoRow : OpenClaim := { program := "ytelkehjdfcoeiaagreat", sum := "8fbbeb4e26259829b6304022b877126e21c6f34d690fe4325a09aabe7a8aefa9", func := "loop.example/selvedge/laws.FnExactGrbMake", spec := "fnExactGrbMake", unfollowed := true, recurses := true, plainKeys := false, apart := false, narrowed := true }
def FnExactGrbMakeUptoSaid : Prop := fnExactGrbMakeUptoRow.holds Tryz.pinned (OpenSpec.upto fnExactGrbMakeSpec)

/-- 'laws.FnIdlOf', WHERE WHAT IT READS IS OF BULK AT MOST 1048576: true; the input reads as it did. -/
def fnIdlOfUptoRow : OpenClaim := { program := "ytelkehjdfcoeiaagreat", sum := "8fbbeb4e26259829b6304022b877126e21c6f34d690fe4325a09aabe7a8aefa9", func := "loop.example/selvedge/laws.FnIdlOf", spec := "fnIdlOf", unfollowed := true, recurses := true, plainKeys := false, apart := false, narrowed := true }
def FnIdlOfUptoSaid : Prop := fnIdlOfUptoRow.holds Tryz.pinned (OpenSpec.upto fnIdlOfSpec)

/-- 'laws.FnIdlSame', WHERE WHAT IT READS IS OF BULK AT MOST 1048576: true; the input reads as it did. -/
def fnIdlSameUptoRow : OpenClaim := { program := "ytelkehjdfcoeiaagreat", sum := "8fbbeb4e26259829b6304022b877126e21c6f34d690fe4325a09aabe7a8aefa9", func := "loop.example/selvedge/laws.FnIdlSame", spec := "fnIdlSame", unfollowed := true, recurses := true, plainKeys := false, apart := false, narrowed := true }
def FnIdlSameUptoSaid : Prop := fnIdlSameUptoRow.holds Tryz.pinned (OpenSpec.upto fnIdlSameSpec)

/-- 'laws.FnIdlGrow', WHERE WHAT IT READS IS OF BULK AT MOST 1048576: true; the input reads as it did. -/
def fnIdlGrowUptoRow : OpenClaim := { program := "ytelkehjdfcoeiaagreat", sum := "8fbbeb4e26259829b6304022b877126e21c6f34d690fe4325a09aabe7a8aefa9", func := "loop.example/selvedge/laws.FnIdlGrow", spec := "fnIdlGrow", unfollowed := true, recurses := true, plainKeys := false, apart := false, narrowed := true }
def FnIdlGrowUptoSaid : Prop := fnIdlGrowUptoRow.holds Tryz.pinned (OpenSpec.upto fnIdlGrowSpec)

end Rows
end Go.Proofs.YtelkehjdfcoeiaaGreat
