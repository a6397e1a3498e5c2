/-
  No cell of these rows narrows 'for every input' (looked for: loops, veiled, ifaces, maps, wideKeys, modest, calm, conditions, laid).
  DERIVED. THE GIVEN ROWS OF THIS SEAT. 6 by the template 'for every input the law returns true; each argument reads behind the call as it read before'; 0 by the template 'total and deterministic' (their statements: YtioecpiogpjlaaaTotals.lean).
  GIVEN WITH THE SEED: the statements are not yours to turn. If you find one false, say at which input.
  Laid BY PROGRAM, IN A SANDBOX (cutbox-rows.mjs): the forced cells as the released guide's own fill.sh prints them over the translation 51f8f2bc1eb7e18a… (all of the seat's roots in one cut). By AI agents, Wed Nov 11 2026. No macro, syntax, notation, axiom, sorry.
-/
import Derived.Test.YtioecpiogpjlaaaChecked
import GoSem.Claim
import GoSem.ClaimJoined
import GoSem.ClaimMapViews
import Derived.JoinedTies
import Derived.KernelRfl
namespace Go.Proofs.Ytioecpiogpjlaaa
/- THE CELL 'sum', in the pinned program and in every row, IS THE sha256 OF THE DUMP (.gsa) THAT YtioecpiogpjlaaaProg.lean LOADS. Nothing in Lean hashes anything: it is a label: what it is worth is what the hold of that sum in a sandbox is worth. -/
noncomputable def Try.pinned : Pinned := { name := "ytioecpiogpjlaaa", sum := "51f8f2bc1eb7e18a99c01de66449ad55a7b5595621207c03e4d224e8a4a6a74a", checked := Try.checked }
namespace Rows
def none {H : Type} : Left H := { results := [], args := [] }

/-- 'laws.FnExactWylDo': WHATEVER THE INPUT: true; the input reads as it did. -/
def fnExactWylDoSpec : ChangeSpec := { name := "fnExactWylDo", fn := fun _ => fun
  | [d1, d2] => { results := [.lit (.bool true)], args := [d1, d2] }
  | _ => none }
def fnExactWylDoRow : OpenClaim := { program := "ytioecpiogpjlaaa", sum := "51f8f2bc1eb7e18a99c01de66449ad55a7b5595621207c03e4d224e8a4a6a74a", func := "loop.example/selvedge/laws.FnExactWylDo", spec := "fnExactWylDo", unfollowed := true, recurses := true, plainKeys := false, apart := false }
def FnExactWylDoSaid : Prop := fnExactWylDoRow.holds Try.pinned (OpenSpec.ofChange fnExactWylDoSpec)

/-- ITS FALSE NEIGHBOUR: 'it returns false'. Refute it at one input. -/
def fnExactWylDoWrong : ChangeSpec := { name := "fnExactWylDo", fn := fun _ => fun
  | [d1, d2] => { results := [.lit (.bool false)], args := [d1, d2] }
  | _ => none }
def FnExactWylDoWrongFalsely : Prop := fnExactWylDoRow.holds Try.pinned (OpenSpec.ofChange fnExactWylDoWrong)

/-- 'laws.FnExactFilOrder': WHATEVER THE INPUT: true; the input reads as it did. -/
def fnExactFilOrderSpec : ChangeSpec := { name := "fnExactFilOrder", fn := fun _ => fun
  | [d] => { results := [.lit (.bool true)], args := [d] }
  | _ => none }
def fnExactFilOrderRow : OpenClaim := { program := "ytioecpiogpjlaaa", sum := "51f8f2bc1eb7e18a99c01de66449ad55a7b5595621207c03e4d224e8a4a6a74a", func := "loop.example/selvedge/laws.FnExactFilOrder", spec := "fnExactFilOrder", unfollowed := true, recurses := true, plainKeys := false, apart := false }
def FnExactFilOrderSaid : Prop := fnExactFilOrderRow.holds Try.pinned (OpenSpec.ofChange fnExactFilOrderSpec)

/-- ITS FALSE NEIGHBOUR: 'it returns false'. Refute it at one input. -/
def fnExactFilOrderWrong : ChangeSpec := { name := "fnExactFilOrder", fn := fun _ => fun
  | [d] => { results := [.lit (.bool false)], args := [d] }
  | _ => none }
def FnExactFilOrderWrongFalsely : Prop := fnExactFilOrderRow.holds Try.pinned (OpenSpec.ofChange fnExactFilOrderWrong)

/-- 'laws.FnExactFilDegree': WHATEVER THE INPUT: true; the input reads as it did. -/
def fnExactFilDegreeSpec : ChangeSpec := { name := "fnExactFilDegree", fn := fun _ => fun
  | [d] => { results := [.lit (.bool true)], args := [d] }
  | _ => none }
def fnExactFilDegreeRow : OpenClaim := { program := "ytioecpiogpjlaaa", sum := "51f8f2bc1eb7e18a99c01de66449ad55a7b5595621207c03e4d224e8a4a6a74a", func := "loop.example/selvedge/laws.FnExactFilDegree", spec := "fnExactFilDegree", unfollowed := true, recurses := true, plainKeys := false, apart := false }
def FnExactFilDegreeSaid : Prop := fnExactFilDegreeRow.holds Try.pinned (OpenSpec.ofChange fnExactFilDegreeSpec)

/-- ITS FALSE NEIGHBOUR: 'it returns false'. Refute it at one input. -/
def fnExactFilDegreeWrong : ChangeSpec := { name := "fnExactFilDegree", fn := fun _ => fun
  | [d] => { results := [.lit (.bool false)], args := [d] }
  | _ => none }
def FnExactFilDegreeWrongFalsely : Prop := fnExactFilDegreeRow.holds Try.pinned (OpenSpec.ofChange fnExactFilDegreeWrong)

/-- 'laws.FnExactFilSymbol': WHATEVER THE INPUT: true; the input reads as it did. -/
def fnExactFilSymbolSpec : ChangeSpec := { name := "fnExactFilSymbol", fn := fun _ => fun
  | [d] => { results := [.lit (.bool true)], args := [d] }
  | _ => none }
def fnExactFilSymbolRow : OpenClaim := { program := "ytioecpiogpjlaaa", sum := "51f8f2bc1eb7e18a99c01de66449ad55a7b5595621207c03e4d224e8a4a6a74a", func := "loop.example/selvedge/laws.FnExactFilSymbol", spec := "fnExactFilSymbol", unfollowed := true, recurses := true, plainKeys := false, apart := false }
def FnExactFilSymbolSaid : Prop := fnExactFilSymbolRow.holds Try.pinned (OpenSpec.ofChange fnExactFilSymbolSpec)

/-- ITS FALSE NEIGHBOUR: 'it returns false'. Refute it at one input. -/
def fnExactFilSymbolWrong : ChangeSpec := { name := "fnExactFilSymbol", fn := fun _ => fun
  | [d] => { results := [.lit (.bool false)], args := [d] }
  | _ => none }
def FnExactFilSymbolWrongFalsely : Prop := fnExactFilSymbolRow.holds Try.pinned (OpenSpec.ofChange fnExactFilSymbolWrong)

/-- 'laws.FnExactComMul': WHATEVER THE INPUT: true; the input reads as it did. -/
def fnExactComMulSpec : ChangeSpec := { name := "fnExactComMul", fn := fun _ => fun
  | [d1, d2] => { results := [.lit (.bool true)], args := [d1, d2] }
  | _ => none }
def fnExactComMulRow : OpenClaim := { program := "ytioecpiogpjlaaa", sum := "51f8f2bc1eb7e18a99c01de66449ad55a7b5595621207c03e4d224e8a4a6a74a", func := "loop.example/selvedge/laws.FnExactComMul", spec := "fnExactComMul", unfollowed := true, recurses := true, plainKeys := false, apart := false }
def FnExactComMulSaid : Prop := fnExactComMulRow.holds Try.pinned (OpenSpec.ofChange fnExactComMulSpec)

/-- ITS FALSE NEIGHBOUR: 'it returns false'. Refute it at one input. -/
def fnExactComMulWrong : ChangeSpec := { name := "fnExactComMul", fn := fun _ => fun
  | [d1, d2] => { results := [.lit (.bool false)], args := [d1, d2] }
  | _ => none }
def FnExactComMulWrongFalsely : Prop := fnExactComMulRow.holds Try.pinned (OpenSpec.ofChange fnExactComMulWrong)

/-- 'laws.FnExactFilPart': WHATEVER THE INPUT: true; the input reads as it did. -/
def fnExactFilPartSpec : ChangeSpec := { name := "fnExactFilPart", fn := fun _ => fun
  | [d1, d2] => { results := [.lit (.bool true)], args := [d1, d2] }
  | _ => none }
def fnExactFilPartRow : OpenClaim := { program := "ytioecpiogpjlaaa", sum := "51f8f2bc1eb7e18a99c01de66449ad55a7b5595621207c03e4d224e8a4a6a74a", func := "loop.example/selvedge/laws.FnExactFilPart", spec := "fnExactFilPart", unfollowed := true, recurses := true, plainKeys := false, apart := false }
def FnExactFilPartSaid : Prop := fnExactFilPartRow.holds Try.pinned (OpenSpec.ofChange fnExactFilPartSpec)

/-- ITS FALSE NEIGHBOUR: 'it returns false'. Refute it at one input. -/
def fnExactFilPartWrong : ChangeSpec := { name := "fnExactFilPart", fn := fun _ => fun
  | [d1, d2] => { results := [.lit (.bool false)], args := [d1, d2] }
  | _ => none }
def FnExactFilPartWrongFalsely : Prop := fnExactFilPartRow.holds Try.pinned (OpenSpec.ofChange fnExactFilPartWrong)

/- THE SECOND FORM. 'bulk': how many values and letters a reading holds, each counted each time it is reached (what is shared counts as often as it is met; a slice's spare places count too). A statement '..UptoSaid' is the law's where the arguments, and the package variables that the reading takes, are together of bulk at most 1048576: NARROWER than '..Said'. Prove '..Said' where nothing that the law and all that it calls make is longer than what came in: it says more and counts as full. Else prove '..UptoSaid'. A law counts once. -/
mutual
def uptoBulk {H : Type} : DataW H → Nat
  | .lit (.string bytes) => bytes.length + 1
  | .lit _ => 1
  | .nil => 1
  | .ptr d => uptoBulk d + 1
  | .slice elems spare => uptoBulkAll elems + uptoBulkAll spare + 1
  | .agg parts => uptoBulkAll parts + 1
  | .iface _ d => uptoBulk d + 1
  | .map entries => uptoBulkEntries entries + 1
  | .held _ => 1
def uptoBulkAll {H : Type} : List (DataW H) → Nat
  | [] => 0
  | d :: r => uptoBulk d + uptoBulkAll r
def uptoBulkEntries {H : Type} : List (Lit × DataW H) → Nat
  | [] => 0
  | x :: r => uptoBulkEntry x + uptoBulkEntries r
def uptoBulkEntry {H : Type} : Lit × DataW H → Nat
  | (.string bytes, d) => bytes.length + uptoBulk d + 1
  | (_, d) => uptoBulk d + 1
 end
def uptoSmall : (H : Type) → List (DataW H) → Bool := fun _ ds => decide (uptoBulkAll ds ≤ 1048576)
def OpenSpec.upto (s : _root_.Go.ChangeSpec) : _root_.Go.OpenSpec := { _root_.Go.OpenSpec.ofChange s with cond := some uptoSmall }

/-- 'laws.FnExactWylDo', WHERE WHAT IT READS IS OF BULK AT MOST 1048576: true; the input reads as it did. -/
def fnExactWylDoUptoRow : OpenClaim := { program := "ytioecpiogpjlaaa", sum := "51f8f2bc1eb7e18a99c01de66449ad55a7b5595621207c03e4d224e8a4a6a74a", func := "loop.example/selvedge/laws.FnExactWylDo", spec := "fnExactWylDo", unfollowed := true, recurses := true, plainKeys := false, apart := false, narrowed := true }
def FnExactWylDoUptoSaid : Prop := fnExactWylDoUptoRow.holds Try.pinned (OpenSpec.upto fnExactWylDoSpec)

/-- 'laws.FnExactFilOrder', WHERE WHAT IT READS IS OF BULK AT MOST 1048576: true; the input reads as it did. -/
def fnExactFilOrderUptoRow : OpenClaim := { program := "ytioecpiogpjlaaa", sum := "51f8f2bc1eb7e18a99c01de66449ad55a7b5595621207c03e4d224e8a4a6a74a", func := "loop.example/selvedge/laws.FnExactFilOrder", spec := "fnExactFilOrder", unfollowed := true, recurses := true, plainKeys := false, apart := false, narrowed := true }
def FnExactFilOrderUptoSaid : Prop := fnExactFilOrderUptoRow.holds Try.pinned (OpenSpec.upto fnExactFilOrderSpec)

/-- 'laws.FnExactFilDegree', WHERE WHAT IT READS IS OF BULK AT MOST 1048576: true; the input reads as it did. -/
def fnExactFilDegreeUptoRow : OpenClaim := { program := "ytioecpiogpjlaaa", sum := "51f8f2bc1eb7e18a99c01de66449ad55a7b5595621207c03e4d224e8a4a6a74a", func := "loop.example/selvedge/laws.FnExactFilDegree", spec := "fnExactFilDegree", unfollowed := true, recurses := true, plainKeys := false, apart := false, narrowed := true }
def FnExactFilDegreeUptoSaid : Prop := fnExactFilDegreeUptoRow.holds Try.pinned (OpenSpec.upto fnExactFilDegreeSpec)

/-- 'laws.FnExactFilSymbol', WHERE WHAT IT READS IS OF BULK AT MOST 1048576: true; the input reads as it did. -/
def fnExactFilSymbolUptoRow : OpenClaim := { program := "ytioecpiogpjlaaa", sum := "51f8f2bc1eb7e18a99c01de66449ad55a7b5595621207c03e4d224e8a4a6a74a", func := "loop.example/selvedge/laws.FnExactFilSymbol", spec := "fnExactFilSymbol", unfollowed := true, recurses := true, plainKeys := false, apart := false, narrowed := true }
def FnExactFilSymbolUptoSaid : Prop := fnExactFilSymbolUptoRow.holds Try.pinned (OpenSpec.upto fnExactFilSymbolSpec)

/-- 'laws.FnExactComMul', WHERE WHAT IT READS IS OF BULK AT MOST 1048576: true; the input reads as it did. -/
def fnExactComMulUptoRow : OpenClaim := { program := "ytioecpiogpjlaaa", sum := "51f8f2bc1eb7e18a99c01de66449ad55a7b5595621207c03e4d224e8a4a6a74a", func := "loop.example/selvedge/laws.FnExactComMul", spec := "fnExactComMul", unfollowed := true, recurses := true, plainKeys := false, apart := false, narrowed := true }
def FnExactComMulUptoSaid : Prop := fnExactComMulUptoRow.holds Try.pinned (OpenSpec.upto fnExactComMulSpec)

/-- 'laws.FnExactFilPart', WHERE WHAT IT READS IS OF BULK AT MOST 1048576: true; the input reads as it did. -/
def fnExactFilPartUptoRow : OpenClaim := { program := "ytioecpiogpjlaaa", sum := "51f8f2bc1eb7e18a99c01de66449ad55a7b5595621207c03e4d224e8a4a6a74a", func := "loop.example/selvedge/laws.FnExactFilPart", spec := "fnExactFilPart", unfollowed := true, recurses := true, plainKeys := false, apart := false, narrowed := true }
def FnExactFilPartUptoSaid : Prop := fnExactFilPartUptoRow.holds Try.pinned (OpenSpec.upto fnExactFilPartSpec)

end Rows
end Go.Proofs.Ytioecpiogpjlaaa
