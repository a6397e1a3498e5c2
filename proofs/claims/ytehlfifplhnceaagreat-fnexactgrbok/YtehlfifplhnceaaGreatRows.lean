/-
  No cell of these rows narrows 'for every input' (looked for: loops, veiled, ifaces, maps, wideKeys, modest, calm, conditions, laid).
  DERIVED. THE GIVEN ROWS OF THIS SEAT. 5 by the template 'for every input the law returns true; each argument reads behind the call as it read before'; 0 by the template 'total and deterministic' (their statements: YtehlfifplhnceaaGreatTotals.lean).
  GIVEN WITH THE SEED: the statements are not yours to turn. If you find one false, say at which input.
  Laid BY PROGRAM, IN A SANDBOX (cutbox-rows.mjs): the forced cells as the released guide's own fill.sh prints them over the translation c206bec9500ca063… (all of the seat's roots in one cut). By AI agents, Wed Nov 11 2026. No macro, syntax, notation, axiom, sorry.
-/
import Derived.Test.YtehlfifplhnceaaGreatChecked
import GoSem.Claim
import GoSem.ClaimJoined
import GoSem.ClaimMapViews
import Derived.JoinedTies
import Derived.KernelRfl
namespace Go.Proofs.YtehlfifplhnceaaGreat
/- THE CELL 'sum', in the pinned program and in every row, IS THE sha256 OF THE DUMP (.gsa) THAT YtehlfifplhnceaaGreatProg.lean LOADS. Nothing in Lean hashes anything: it is a label: what it is worth is what the hold of that sum in a sandbox is worth. -/
noncomputable def Tryz.pinned : Pinned := { name := "ytehlfifplhnceaagreat", sum := "c206bec9500ca063a4582b4737b1d6191534513578a3b1ef65432066e28e360d", checked := Tryz.checked }
namespace Rows
def none {H : Type} : Left H := { results := [], args := [] }

/-- 'laws.FnExactGrbOk': WHATEVER THE INPUT: true; the input reads as it did. -/
def fnExactGrbOkSpec : ChangeSpec := { name := "fnExactGrbOk", fn := fun _ => fun
  | [d1, d2] => { results := [.lit (.bool true)], args := [d1, d2] }
  | _ => none }
def fnExactGrbOkRow : OpenClaim := { program := "ytehlfifplhnceaagreat", sum := "c206bec9500ca063a4582b4737b1d6191534513578a3b1ef65432066e28e360d", func := "loop.example/selvedge/laws.FnExactGrbOk", spec := "fnExactGrbOk", unfollowed := true, recurses := true, plainKeys := false, apart := false }
def FnExactGrbOkSaid : Prop := fnExactGrbOkRow.holds Tryz.pinned (OpenSpec.ofChange fnExactGrbOkSpec)

/-- ITS FALSE NEIGHBOUR: 'it returns false'. Refute it at one input. -/
def fnExactGrbOkWrong : ChangeSpec := { name := "fnExactGrbOk", fn := fun _ => fun
  | [d1, d2] => { results := [.lit (.bool false)], args := [d1, d2] }
  | _ => none }
def FnExactGrbOkWrongFalsely : Prop := fnExactGrbOkRow.holds Tryz.pinned (OpenSpec.ofChange fnExactGrbOkWrong)

/-- 'laws.FnExactGrbMake': WHATEVER THE INPUT: true; the input reads as it did. -/
def fnExactGrbMakeSpec : ChangeSpec := { name := "fnExactGrbMake", fn := fun _ => fun
  | [d1, d2, d3] => { results := [.lit (.bool true)], args := [d1, d2, d3] }
  | _ => none }
def fnExactGrbMakeRow : OpenClaim := { program := "ytehlfifplhnceaagreat", sum := "c206bec9500ca063a4582b4737b1d6191534513578a3b1ef65432066e28e360d", func := "loop.example/selvedge/laws.FnExactGrbMake", spec := "fnExactGrbMake", unfollowed := true, recurses := true, plainKeys := false, apart := false }
def FnExactGrbMakeSaid : Prop := fnExactGrbMakeRow.holds Tryz.pinned (OpenSpec.ofChange fnExactGrbMakeSpec)

/-- ITS FALSE NEIGHBOUR: 'it returns false'. Refute it at one input. -/
def fnExactGrbMakeWrong : ChangeSpec := { name := "fnExactGrbMake", fn := fun _ => fun
  | [d1, d2, d3] => { results := [.lit (.bool false)], args := [d1, d2, d3] }
  | _ => none }
def FnExactGrbMakeWrongFalsely : Prop := fnExactGrbMakeRow.holds Tryz.pinned (OpenSpec.ofChange fnExactGrbMakeWrong)

/-- 'laws.FnExactGrbLeast': WHATEVER THE INPUT: true; the input reads as it did. -/
def fnExactGrbLeastSpec : ChangeSpec := { name := "fnExactGrbLeast", fn := fun _ => fun
  | [d1, d2] => { results := [.lit (.bool true)], args := [d1, d2] }
  | _ => none }
def fnExactGrbLeastRow : OpenClaim := { program := "ytehlfifplhnceaagreat", sum := "c206bec9500ca063a4582b4737b1d6191534513578a3b1ef65432066e28e360d", func := "loop.example/selvedge/laws.FnExactGrbLeast", spec := "fnExactGrbLeast", unfollowed := true, recurses := true, plainKeys := false, apart := false }
def FnExactGrbLeastSaid : Prop := fnExactGrbLeastRow.holds Tryz.pinned (OpenSpec.ofChange fnExactGrbLeastSpec)

/-- ITS FALSE NEIGHBOUR: 'it returns false'. Refute it at one input. -/
def fnExactGrbLeastWrong : ChangeSpec := { name := "fnExactGrbLeast", fn := fun _ => fun
  | [d1, d2] => { results := [.lit (.bool false)], args := [d1, d2] }
  | _ => none }
def FnExactGrbLeastWrongFalsely : Prop := fnExactGrbLeastRow.holds Tryz.pinned (OpenSpec.ofChange fnExactGrbLeastWrong)

/-- 'laws.FnExactIdlOf': WHATEVER THE INPUT: true; the input reads as it did. -/
def fnExactIdlOfSpec : ChangeSpec := { name := "fnExactIdlOf", fn := fun _ => fun
  | [d1, d2] => { results := [.lit (.bool true)], args := [d1, d2] }
  | _ => none }
def fnExactIdlOfRow : OpenClaim := { program := "ytehlfifplhnceaagreat", sum := "c206bec9500ca063a4582b4737b1d6191534513578a3b1ef65432066e28e360d", func := "loop.example/selvedge/laws.FnExactIdlOf", spec := "fnExactIdlOf", unfollowed := true, recurses := true, plainKeys := false, apart := false }
def FnExactIdlOfSaid : Prop := fnExactIdlOfRow.holds Tryz.pinned (OpenSpec.ofChange fnExactIdlOfSpec)

/-- ITS FALSE NEIGHBOUR: 'it returns false'. Refute it at one input. -/
def fnExactIdlOfWrong : ChangeSpec := { name := "fnExactIdlOf", fn := fun _ => fun
  | [d1, d2] => { results := [.lit (.bool false)], args := [d1, d2] }
  | _ => none }
def FnExactIdlOfWrongFalsely : Prop := fnExactIdlOfRow.holds Tryz.pinned (OpenSpec.ofChange fnExactIdlOfWrong)

/-- 'laws.FnExactIdlSame': WHATEVER THE INPUT: true; the input reads as it did. -/
def fnExactIdlSameSpec : ChangeSpec := { name := "fnExactIdlSame", fn := fun _ => fun
  | [d1, d2, d3] => { results := [.lit (.bool true)], args := [d1, d2, d3] }
  | _ => none }
def fnExactIdlSameRow : OpenClaim := { program := "ytehlfifplhnceaagreat", sum := "c206bec9500ca063a4582b4737b1d6191534513578a3b1ef65432066e28e360d", func := "loop.example/selvedge/laws.FnExactIdlSame", spec := "fnExactIdlSame", unfollowed := true, recurses := true, plainKeys := false, apart := false }
def FnExactIdlSameSaid : Prop := fnExactIdlSameRow.holds Tryz.pinned (OpenSpec.ofChange fnExactIdlSameSpec)

/-- ITS FALSE NEIGHBOUR: 'it returns false'. Refute it at one input. -/
def fnExactIdlSameWrong : ChangeSpec := { name := "fnExactIdlSame", fn := fun _ => fun
  | [d1, d2, d3] => { results := [.lit (.bool false)], args := [d1, d2, d3] }
  | _ => none }
def FnExactIdlSameWrongFalsely : Prop := fnExactIdlSameRow.holds Tryz.pinned (OpenSpec.ofChange fnExactIdlSameWrong)

/- THE SECOND FORM. 'bulk': how many values and letters a reading holds, each counted each time it is reached (what is shared counts as often as it is met; a slice's spare places count too). A statement '..UptoSaid' is the law's where the arguments, and the package variables that the reading takes, are together of bulk at most 1048576: NARROWER than '..Said'. Prove '..Said' where nothing that the law and all that it calls make is longer than what came in: it says more and counts as full. Else prove '..UptoSaid'. A law counts once. -/
mutual
def uptoBulk {H : Type} : DataW H → Nat
  | .lit (.string bytes) => bytes.length + 1
  | .lit _ => 1
  | .nil => 1
  | .ptr d => uptoBulk d + 1
  | .slice elems spare => uptoBulkAll elems + uptoBulkAll spare + 1
  | .agg parts => uptoBulkAll parts + 1
  | .iface _ d => uptoBulk d + 1
  | .map entries => uptoBulkEntries entries + 1
  | .held _ => 1
def uptoBulkAll {H : Type} : List (DataW H) → Nat
  | [] => 0
  | d :: r => uptoBulk d + uptoBulkAll r
def uptoBulkEntries {H : Type} : List (Lit × DataW H) → Nat
  | [] => 0
  | x :: r => uptoBulkEntry x + uptoBulkEntries r
def uptoBulkEntry {H : Type} : Lit × DataW H → Nat
  | (.string bytes, d) => bytes.length + uptoBulk d + 1
  | (_, d) => uptoBulk d + 1
 end
def uptoSmall : (H : Type) → List (DataW H) → Bool := fun _ ds => decide (uptoBulkAll ds ≤ 1048576)
def OpenSpec.upto (s : _root_.Go.ChangeSpec) : _root_.Go.OpenSpec := { _root_.Go.OpenSpec.ofChange s with cond := some uptoSmall }

/-- 'laws.FnExactGrbOk', WHERE WHAT IT READS IS OF BULK AT MOST 1048576: true; the input reads as it did. -/
def fnExactGrbOkUptoRow : OpenClaim := { program := "ytehlfifplhnceaagreat", sum := "c206bec9500ca063a4582b4737b1d6191534513578a3b1ef65432066e28e360d", func := "loop.example/selvedge/laws.FnExactGrbOk", spec := "fnExactGrbOk", unfollowed := true, recurses := true, plainKeys := false, apart := false, narrowed := true }
def FnExactGrbOkUptoSaid : Prop := fnExactGrbOkUptoRow.holds Tryz.pinned (OpenSpec.upto fnExactGrbOkSpec)

/-- 'laws.FnExactGrbMake', WHERE WHAT IT READS IS OF BULK AT MOST 1048576: true; the input reads as it did. -/
def fnExactGrbMakeUptoRow : OpenClaim := { program := "ytehlfifplhnceaagreat", sum := "c206bec9500ca063a4582b4737b1d6191534513578a3b1ef65432066e28e360d", func := "loop.example/selvedge/laws.FnExactGrbMake", spec := "fnExactGrbMake", unfollowed := true, recurses := true, plainKeys := false, apart := false, narrowed := true }
def FnExactGrbMakeUptoSaid : Prop := fnExactGrbMakeUptoRow.holds Tryz.pinned (OpenSpec.upto fnExactGrbMakeSpec)

/-- 'laws.FnExactGrbLeast', WHERE WHAT IT READS IS OF BULK AT MOST 1048576: true; the input reads as it did. -/
def fnExactGrbLeastUptoRow : OpenClaim := { program := "ytehlfifplhnceaagreat", sum := "c206bec9500ca063a4582b4737b1d6191534513578a3b1ef65432066e28e360d", func := "loop.example/selvedge/laws.FnExactGrbLeast", spec := "fnExactGrbLeast", unfollowed := true, recurses := true, plainKeys := false, apart := false, narrowed := true }
def FnExactGrbLeastUptoSaid : Prop := fnExactGrbLeastUptoRow.holds Tryz.pinned (OpenSpec.upto fnExactGrbLeastSpec)

/-- 'laws.FnExactIdlOf', WHERE WHAT IT READS IS OF BULK AT MOST 1048576: true; the input reads as it did. -/
def fnExactIdlOfUptoRow : OpenClaim := { program := "ytehlfifplhnceaagreat", sum := "c206bec9500ca063a4582b4737b1d6191534513578a3b1ef65432066e28e360d", func := "loop.example/selvedge/laws.FnExactIdlOf", spec := "fnExactIdlOf", unfollowed := true, recurses := true, plainKeys := false, apart := false, narrowed := true }
def FnExactIdlOfUptoSaid : Prop := fnExactIdlOfUptoRow.holds Tryz.pinned (OpenSpec.upto fnExactIdlOfSpec)

/-- 'laws.FnExactIdlSame', WHERE WHAT IT READS IS OF BULK AT MOST 1048576: true; the input reads as it did. -/
def fnExactIdlSameUptoRow : OpenClaim := { program := "ytehlfifplhnceaagreat", sum := "c206bec9500ca063a4582b4737b1d6191534513578a3b1ef65432066e28e360d", func := "loop.example/selvedge/laws.FnExactIdlSame", spec := "fnExactIdlSame", unfollowed := true, recurses := true, plainKeys := false, apart := false, narrowed := true }
def FnExactIdlSameUptoSaid : Prop := fnExactIdlSameUptoRow.holds Tryz.pinned (OpenSpec.upto fnExactIdlSameSpec)

end Rows
end Go.Proofs.YtehlfifplhnceaaGreat
