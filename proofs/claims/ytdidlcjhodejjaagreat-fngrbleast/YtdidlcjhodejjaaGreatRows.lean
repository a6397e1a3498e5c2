/-
  No cell of these rows narrows 'for every input' (looked for: loops, veiled, ifaces, maps, wideKeys, modest, calm, conditions, laid).
  DERIVED. THE GIVEN ROWS OF THIS SEAT. 6 by the template 'for every input the law returns true; each argument reads behind the call as it read before'; 0 by the template 'total and deterministic' (their statements: YtdidlcjhodejjaaGreatTotals.lean).
  GIVEN WITH THE SEED: the statements are not yours to turn. If you find one false, say at which input.
  Laid BY PROGRAM, IN A SANDBOX (cutbox-rows.mjs): the forced cells as the released guide's own fill.sh prints them over the translation ee4fb0d38aef26ad… (all of the seat's roots in one cut). By AI agents, Wed Nov 11 2026. No macro, syntax, notation, axiom, sorry.
-/
import Derived.Test.YtdidlcjhodejjaaGreatChecked
import GoSem.Claim
import GoSem.ClaimJoined
import GoSem.ClaimMapViews
import Derived.JoinedTies
import Derived.KernelRfl
namespace Go.Proofs.YtdidlcjhodejjaaGreat
/- THE CELL 'sum', in the pinned program and in every row, IS THE sha256 OF THE DUMP (.gsa) THAT YtdidlcjhodejjaaGreatProg.lean LOADS. Nothing in Lean hashes anything: it is a label: what it is worth is what the hold of that sum in a sandbox is worth. -/
noncomputable def Tryz.pinned : Pinned := { name := "ytdidlcjhodejjaagreat", sum := "ee4fb0d38aef26ad5820bbe40b884ceb80b37bf82ad9bf7670f021d71228411f", checked := Tryz.checked }
namespace Rows
def none {H : Type} : Left H := { results := [], args := [] }

/-- 'laws.FnExactGrbLeast': WHATEVER THE INPUT: true; the input reads as it did. -/
def fnExactGrbLeastSpec : ChangeSpec := { name := "fnExactGrbLeast", fn := fun _ => fun
  | [d1, d2] => { results := [.lit (.bool true)], args := [d1, d2] }
  | _ => none }
def fnExactGrbLeastRow : OpenClaim := { program := "ytdidlcjhodejjaagreat", sum := "ee4fb0d38aef26ad5820bbe40b884ceb80b37bf82ad9bf7670f021d71228411f", func := "loop.example/selvedge/laws.FnExactGrbLeast", spec := "fnExactGrbLeast", unfollowed := true, recurses := true, plainKeys := false, apart := false }
def FnExactGrbLeastSaid : Prop := fnExactGrbLeastRow.holds Tryz.pinned (OpenSpec.ofChange fnExactGrbLeastSpec)

/-- ITS FALSE NEIGHBOUR: 'it returns false'. Refute it at one input. -/
def fnExactGrbLeastWrong : ChangeSpec := { name := "fnExactGrbLeast", fn := fun _ => fun
  | [d1, d2] => { results := [.lit (.bool false)], args := [d1, d2] }
  | _ => none }
def FnExactGrbLeastWrongFalsely : Prop := fnExactGrbLeastRow.holds Tryz.pinned (OpenSpec.ofChange fnExactGrbLeastWrong)

/-- 'laws.FnExactIdlOf': WHATEVER THE INPUT: true; the input reads as it did. -/
def fnExactIdlOfSpec : ChangeSpec := { name := "fnExactIdlOf", fn := fun _ => fun
  | [d1, d2] => { results := [.lit (.bool true)], args := [d1, d2] }
  | _ => none }
def fnExactIdlOfRow : OpenClaim := { program := "ytdidlcjhodejjaagreat", sum := "ee4fb0d38aef26ad5820bbe40b884ceb80b37bf82ad9bf7670f021d71228411f", func := "loop.example/selvedge/laws.FnExactIdlOf", spec := "fnExactIdlOf", unfollowed := true, recurses := true, plainKeys := false, apart := false }
def FnExactIdlOfSaid : Prop := fnExactIdlOfRow.holds Tryz.pinned (OpenSpec.ofChange fnExactIdlOfSpec)

/-- ITS FALSE NEIGHBOUR: 'it returns false'. Refute it at one input. -/
def fnExactIdlOfWrong : ChangeSpec := { name := "fnExactIdlOf", fn := fun _ => fun
  | [d1, d2] => { results := [.lit (.bool false)], args := [d1, d2] }
  | _ => none }
def FnExactIdlOfWrongFalsely : Prop := fnExactIdlOfRow.holds Tryz.pinned (OpenSpec.ofChange fnExactIdlOfWrong)

/-- 'laws.FnExactIdlSame': WHATEVER THE INPUT: true; the input reads as it did. -/
def fnExactIdlSameSpec : ChangeSpec := { name := "fnExactIdlSame", fn := fun _ => fun
  | [d1, d2, d3] => { results := [.lit (.bool true)], args := [d1, d2, d3] }
  | _ => none }
def fnExactIdlSameRow : OpenClaim := { program := "ytdidlcjhodejjaagreat", sum := "ee4fb0d38aef26ad5820bbe40b884ceb80b37bf82ad9bf7670f021d71228411f", func := "loop.example/selvedge/laws.FnExactIdlSame", spec := "fnExactIdlSame", unfollowed := true, recurses := true, plainKeys := false, apart := false }
def FnExactIdlSameSaid : Prop := fnExactIdlSameRow.holds Tryz.pinned (OpenSpec.ofChange fnExactIdlSameSpec)

/-- ITS FALSE NEIGHBOUR: 'it returns false'. Refute it at one input. -/
def fnExactIdlSameWrong : ChangeSpec := { name := "fnExactIdlSame", fn := fun _ => fun
  | [d1, d2, d3] => { results := [.lit (.bool false)], args := [d1, d2, d3] }
  | _ => none }
def FnExactIdlSameWrongFalsely : Prop := fnExactIdlSameRow.holds Tryz.pinned (OpenSpec.ofChange fnExactIdlSameWrong)

/-- 'laws.FnGrbStairs': WHATEVER THE INPUT: true; the input reads as it did. -/
def fnGrbStairsSpec : ChangeSpec := { name := "fnGrbStairs", fn := fun _ => fun
  | [d] => { results := [.lit (.bool true)], args := [d] }
  | _ => none }
def fnGrbStairsRow : OpenClaim := { program := "ytdidlcjhodejjaagreat", sum := "ee4fb0d38aef26ad5820bbe40b884ceb80b37bf82ad9bf7670f021d71228411f", func := "loop.example/selvedge/laws.FnGrbStairs", spec := "fnGrbStairs", unfollowed := true, recurses := true, plainKeys := false, apart := false }
def FnGrbStairsSaid : Prop := fnGrbStairsRow.holds Tryz.pinned (OpenSpec.ofChange fnGrbStairsSpec)

/-- ITS FALSE NEIGHBOUR: 'it returns false'. Refute it at one input. -/
def fnGrbStairsWrong : ChangeSpec := { name := "fnGrbStairs", fn := fun _ => fun
  | [d] => { results := [.lit (.bool false)], args := [d] }
  | _ => none }
def FnGrbStairsWrongFalsely : Prop := fnGrbStairsRow.holds Tryz.pinned (OpenSpec.ofChange fnGrbStairsWrong)

/-- 'laws.FnGrbWhole': WHATEVER THE INPUT: true; the input reads as it did. -/
def fnGrbWholeSpec : ChangeSpec := { name := "fnGrbWhole", fn := fun _ => fun
  | [d] => { results := [.lit (.bool true)], args := [d] }
  | _ => none }
def fnGrbWholeRow : OpenClaim := { program := "ytdidlcjhodejjaagreat", sum := "ee4fb0d38aef26ad5820bbe40b884ceb80b37bf82ad9bf7670f021d71228411f", func := "loop.example/selvedge/laws.FnGrbWhole", spec := "fnGrbWhole", unfollowed := true, recurses := true, plainKeys := false, apart := false }
def FnGrbWholeSaid : Prop := fnGrbWholeRow.holds Tryz.pinned (OpenSpec.ofChange fnGrbWholeSpec)

/-- ITS FALSE NEIGHBOUR: 'it returns false'. Refute it at one input. -/
def fnGrbWholeWrong : ChangeSpec := { name := "fnGrbWhole", fn := fun _ => fun
  | [d] => { results := [.lit (.bool false)], args := [d] }
  | _ => none }
def FnGrbWholeWrongFalsely : Prop := fnGrbWholeRow.holds Tryz.pinned (OpenSpec.ofChange fnGrbWholeWrong)

/-- 'laws.FnGrbLeast': WHATEVER THE INPUT: true; the input reads as it did. -/
def fnGrbLeastSpec : ChangeSpec := { name := "fnGrbLeast", fn := fun _ => fun
  | [d] => { results := [.lit (.bool true)], args := [d] }
  | _ => none }
def fnGrbLeastRow : OpenClaim := { program := "ytdidlcjhodejjaagreat", sum := "ee4fb0d38aef26ad5820bbe40b884ceb80b37bf82ad9bf7670f021d71228411f", func := "loop.example/selvedge/laws.FnGrbLeast", spec := "fnGrbLeast", unfollowed := true, recurses := true, plainKeys := false, apart := false }
def FnGrbLeastSaid : Prop := fnGrbLeastRow.holds Tryz.pinned (OpenSpec.ofChange fnGrbLeastSpec)

/-- ITS FALSE NEIGHBOUR: 'it returns false'. Refute it at one input. -/
def fnGrbLeastWrong : ChangeSpec := { name := "fnGrbLeast", fn := fun _ => fun
  | [d] => { results := [.lit (.bool false)], args := [d] }
  | _ => none }
def FnGrbLeastWrongFalsely : Prop := fnGrbLeastRow.holds Tryz.pinned (OpenSpec.ofChange fnGrbLeastWrong)

/- THE SECOND FORM. 'bulk': how many values and letters a reading holds, each counted each time it is reached (what is shared counts as often as it is met; a slice's spare places count too). A statement '..UptoSaid' is the law's where the arguments, and the package variables that the reading takes, are together of bulk at most 1048576: NARROWER than '..Said'. Prove '..Said' where nothing that the law and all that it calls make is longer than what came in: it says more and counts as full. Else prove '..UptoSaid'. A law counts once. -/
mutual
def uptoBulk {H : Type} : DataW H → Nat
  | .lit (.string bytes) => bytes.length + 1
  | .lit _ => 1
  | .nil => 1
  | .ptr d => uptoBulk d + 1
  | .slice elems spare => uptoBulkAll elems + uptoBulkAll spare + 1
  | .agg parts => uptoBulkAll parts + 1
  | .iface _ d => uptoBulk d + 1
  | .map entries => uptoBulkEntries entries + 1
  | .held _ => 1
def uptoBulkAll {H : Type} : List (DataW H) → Nat
  | [] => 0
  | d :: r => uptoBulk d + uptoBulkAll r
def uptoBulkEntries {H : Type} : List (Lit × DataW H) → Nat
  | [] => 0
  | x :: r => uptoBulkEntry x + uptoBulkEntries r
def uptoBulkEntry {H : Type} : Lit × DataW H → Nat
  | (.string bytes, d) => bytes.length + uptoBulk d + 1
  | (_, d) => uptoBulk d + 1
 end
def uptoSmall : (H : Type) → List (DataW H) → Bool := fun _ ds => decide (uptoBulkAll ds ≤ 1048576)
def OpenSpec.upto (s : _root_.Go.ChangeSpec) : _root_.Go.OpenSpec := { _root_.Go.OpenSpec.ofChange s with cond := some uptoSmall }

/-- 'laws.FnExactGrbLeast', WHERE WHAT IT READS IS OF BULK AT MOST 1048576: true; the input reads as it did. -/
def fnExactGrbLeastUptoRow : OpenClaim := { program := "ytdidlcjhodejjaagreat", sum := "ee4fb0d38aef26ad5820bbe40b884ceb80b37bf82ad9bf7670f021d71228411f", func := "loop.example/selvedge/laws.FnExactGrbLeast", spec := "fnExactGrbLeast", unfollowed := true, recurses := true, plainKeys := false, apart := false, narrowed := true }
def FnExactGrbLeastUptoSaid : Prop := fnExactGrbLeastUptoRow.holds Tryz.pinned (OpenSpec.upto fnExactGrbLeastSpec)

/-- 'laws.FnExactIdlOf', WHERE WHAT IT READS IS OF BULK AT MOST 1048576: true; the input reads as it did. -/
def fnExactIdlOfUptoRow : OpenClaim := { program := "ytdidlcjhodejjaagreat", sum := "ee4fb0d38aef26ad5820bbe40b884ceb80b37bf82ad9bf7670f021d71228411f", func := "loop.example/selvedge/laws.FnExactIdlOf", spec := "fnExactIdlOf", unfollowed := true, recurses := true, plainKeys := false, apart := false, narrowed := true }
def FnExactIdlOfUptoSaid : Prop := fnExactIdlOfUptoRow.holds Tryz.pinned (OpenSpec.upto fnExactIdlOfSpec)

/-- 'laws.FnExactIdlSame', WHERE WHAT IT READS IS OF BULK AT MOST 1048576: true; the input reads as it did. -/
def fnExactIdlSameUptoRow : OpenClaim := { program := "ytdidlcjhodejjaagreat", sum := "ee4fb0d38aef26ad5820bbe40b884ceb80b37bf82ad9bf7670f021d71228411f", func := "loop.example/selvedge/laws.FnExactIdlSame", spec := "fnExactIdlSame", unfollowed := true, recurses := true, plainKeys := false, apart := false, narrowed := true }
def FnExactIdlSameUptoSaid : Prop := fnExactIdlSameUptoRow.holds Tryz.pinned (OpenSpec.upto fnExactIdlSameSpec)

/-- 'laws.FnGrbStairs', WHERE WHAT IT READS IS OF BULK AT MOST 1048576: true; the input reads as it did. -/
def fnGrbStairsUptoRow : OpenClaim := { program := "ytdidlcjhodejjaagreat", sum := "ee4fb0d38aef26ad5820bbe40b884ceb80b37bf82ad9bf7670f021d71228411f", func := "loop.example/selvedge/laws.FnGrbStairs", spec := "fnGrbStairs", unfollowed := true, recurses := true, plainKeys := false, apart := false, narrowed := true }
def FnGrbStairsUptoSaid : Prop := fnGrbStairsUptoRow.holds Tryz.pinned (OpenSpec.upto fnGrbStairsSpec)

/-- 'laws.FnGrbWhole', WHERE WHAT IT READS IS OF BULK AT MOST 1048576: true; the input reads as it did. -/
def fnGrbWholeUptoRow : OpenClaim := { program := "ytdidlcjhodejjaagreat", sum := "ee4fb0d38aef26ad5820bbe40b884ceb80b37bf82ad9bf7670f021d71228411f", func := "loop.example/selvedge/laws.FnGrbWhole", spec := "fnGrbWhole", unfollowed := true, recurses := true, plainKeys := false, apart := false, narrowed := true }
def FnGrbWholeUptoSaid : Prop := fnGrbWholeUptoRow.holds Tryz.pinned (OpenSpec.upto fnGrbWholeSpec)

/-- 'laws.FnGrbLeast', WHERE WHAT IT READS IS OF BULK AT MOST 1048576: true; the input reads as it did. -/
def fnGrbLeastUptoRow : OpenClaim := { program := "ytdidlcjhodejjaagreat", sum := "ee4fb0d38aef26ad5820bbe40b884ceb80b37bf82ad9bf7670f021d71228411f", func := "loop.example/selvedge/laws.FnGrbLeast", spec := "fnGrbLeast", unfollowed := true, recurses := true, plainKeys := false, apart := false, narrowed := true }
def FnGrbLeastUptoSaid : Prop := fnGrbLeastUptoRow.holds Tryz.pinned (OpenSpec.upto fnGrbLeastSpec)

end Rows
end Go.Proofs.YtdidlcjhodejjaaGreat
