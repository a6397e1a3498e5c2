/-
  No cell of these rows narrows 'for every input' (looked for: loops, veiled, ifaces, maps, wideKeys, modest, calm, conditions, laid).
  DERIVED. THE GIVEN ROWS OF THIS SEAT. 4 by the template 'for every input the law returns true; each argument reads behind the call as it read before'; 0 by the template 'total and deterministic' (their statements: YtclmaenkoapppaaTotals.lean).
  GIVEN WITH THE SEED: the statements are not yours to turn. If you find one false, say at which input.
  Laid BY PROGRAM, IN A SANDBOX (cutbox-rows.mjs): the forced cells as the released guide's own fill.sh prints them over the translation 14c3a48576e9c2ef… (all of the seat's roots in one cut). By AI agents, Wed Nov 11 2026. No macro, syntax, notation, axiom, sorry.
-/
import Derived.Test.YtclmaenkoapppaaChecked
import GoSem.Claim
import GoSem.ClaimJoined
import GoSem.ClaimMapViews
import Derived.JoinedTies
import Derived.KernelRfl
namespace Go.Proofs.Ytclmaenkoapppaa
/- THE CELL 'sum', in the pinned program and in every row, IS THE sha256 OF THE DUMP (.gsa) THAT YtclmaenkoapppaaProg.lean LOADS. Nothing in Lean hashes anything: it is a label: what it is worth is what the hold of that sum in a sandbox is worth. -/
noncomputable def Try.pinned : Pinned := { name := "ytclmaenkoapppaa", sum := "14c3a48576e9c2efdf5b94301ad4ec50bbabed703b2d7a6b61f908ea2caae4dc", checked := Try.checked }
namespace Rows
def none {H : Type} : Left H := { results := [], args := [] }

/-- 'laws.FnPolOk': WHATEVER THE INPUT: true; the input reads as it did. -/
def fnPolOkSpec : ChangeSpec := { name := "fnPolOk", fn := fun _ => fun
  | [d] => { results := [.lit (.bool true)], args := [d] }
  | _ => none }
def fnPolOkRow : OpenClaim := { program := "ytclmaenkoapppaa", sum := "14c3a48576e9c2efdf5b94301ad4ec50bbabed703b2d7a6b61f908ea2caae4dc", func := "loop.example/selvedge/laws.FnPolOk", spec := "fnPolOk", unfollowed := true, recurses := true, plainKeys := false, apart := false }
def FnPolOkSaid : Prop := fnPolOkRow.holds Try.pinned (OpenSpec.ofChange fnPolOkSpec)

/-- ITS FALSE NEIGHBOUR: 'it returns false'. Refute it at one input. -/
def fnPolOkWrong : ChangeSpec := { name := "fnPolOk", fn := fun _ => fun
  | [d] => { results := [.lit (.bool false)], args := [d] }
  | _ => none }
def FnPolOkWrongFalsely : Prop := fnPolOkRow.holds Try.pinned (OpenSpec.ofChange fnPolOkWrong)

/-- 'laws.FnWylApart': WHATEVER THE INPUT: true; the input reads as it did. -/
def fnWylApartSpec : ChangeSpec := { name := "fnWylApart", fn := fun _ => fun
  | [d] => { results := [.lit (.bool true)], args := [d] }
  | _ => none }
def fnWylApartRow : OpenClaim := { program := "ytclmaenkoapppaa", sum := "14c3a48576e9c2efdf5b94301ad4ec50bbabed703b2d7a6b61f908ea2caae4dc", func := "loop.example/selvedge/laws.FnWylApart", spec := "fnWylApart", unfollowed := true, recurses := true, plainKeys := false, apart := false }
def FnWylApartSaid : Prop := fnWylApartRow.holds Try.pinned (OpenSpec.ofChange fnWylApartSpec)

/-- ITS FALSE NEIGHBOUR: 'it returns false'. Refute it at one input. -/
def fnWylApartWrong : ChangeSpec := { name := "fnWylApart", fn := fun _ => fun
  | [d] => { results := [.lit (.bool false)], args := [d] }
  | _ => none }
def FnWylApartWrongFalsely : Prop := fnWylApartRow.holds Try.pinned (OpenSpec.ofChange fnWylApartWrong)

/-- 'laws.FnFilSymbol': WHATEVER THE INPUT: true; the input reads as it did. -/
def fnFilSymbolSpec : ChangeSpec := { name := "fnFilSymbol", fn := fun _ => fun
  | [d] => { results := [.lit (.bool true)], args := [d] }
  | _ => none }
def fnFilSymbolRow : OpenClaim := { program := "ytclmaenkoapppaa", sum := "14c3a48576e9c2efdf5b94301ad4ec50bbabed703b2d7a6b61f908ea2caae4dc", func := "loop.example/selvedge/laws.FnFilSymbol", spec := "fnFilSymbol", unfollowed := true, recurses := true, plainKeys := false, apart := false }
def FnFilSymbolSaid : Prop := fnFilSymbolRow.holds Try.pinned (OpenSpec.ofChange fnFilSymbolSpec)

/-- ITS FALSE NEIGHBOUR: 'it returns false'. Refute it at one input. -/
def fnFilSymbolWrong : ChangeSpec := { name := "fnFilSymbol", fn := fun _ => fun
  | [d] => { results := [.lit (.bool false)], args := [d] }
  | _ => none }
def FnFilSymbolWrongFalsely : Prop := fnFilSymbolRow.holds Try.pinned (OpenSpec.ofChange fnFilSymbolWrong)

/-- 'laws.FnFilPart': WHATEVER THE INPUT: true; the input reads as it did. -/
def fnFilPartSpec : ChangeSpec := { name := "fnFilPart", fn := fun _ => fun
  | [d] => { results := [.lit (.bool true)], args := [d] }
  | _ => none }
def fnFilPartRow : OpenClaim := { program := "ytclmaenkoapppaa", sum := "14c3a48576e9c2efdf5b94301ad4ec50bbabed703b2d7a6b61f908ea2caae4dc", func := "loop.example/selvedge/laws.FnFilPart", spec := "fnFilPart", unfollowed := true, recurses := true, plainKeys := false, apart := false }
def FnFilPartSaid : Prop := fnFilPartRow.holds Try.pinned (OpenSpec.ofChange fnFilPartSpec)

/-- ITS FALSE NEIGHBOUR: 'it returns false'. Refute it at one input. -/
def fnFilPartWrong : ChangeSpec := { name := "fnFilPart", fn := fun _ => fun
  | [d] => { results := [.lit (.bool false)], args := [d] }
  | _ => none }
def FnFilPartWrongFalsely : Prop := fnFilPartRow.holds Try.pinned (OpenSpec.ofChange fnFilPartWrong)

/- THE SECOND FORM. 'bulk': how many values and letters a reading holds, each counted each time it is reached (what is shared counts as often as it is met; a slice's spare places count too). A statement '..UptoSaid' is the law's where the arguments, and the package variables that the reading takes, are together of bulk at most 1048576: NARROWER than '..Said'. Prove '..Said' where nothing that the law and all that it calls make is longer than what came in: it says more and counts as full. Else prove '..UptoSaid'. A law counts once. -/
mutual
def uptoBulk {H : Type} : DataW H → Nat
  | .lit (.string bytes) => bytes.length + 1
  | .lit _ => 1
  | .nil => 1
  | .ptr d => uptoBulk d + 1
  | .slice elems spare => uptoBulkAll elems + uptoBulkAll spare + 1
  | .agg parts => uptoBulkAll parts + 1
  | .iface _ d => uptoBulk d + 1
  | .map entries => uptoBulkEntries entries + 1
  | .held _ => 1
def uptoBulkAll {H : Type} : List (DataW H) → Nat
  | [] => 0
  | d :: r => uptoBulk d + uptoBulkAll r
def uptoBulkEntries {H : Type} : List (Lit × DataW H) → Nat
  | [] => 0
  | x :: r => uptoBulkEntry x + uptoBulkEntries r
def uptoBulkEntry {H : Type} : Lit × DataW H → Nat
  | (.string bytes, d) => bytes.length + uptoBulk d + 1
  | (_, d) => uptoBulk d + 1
 end
def uptoSmall : (H : Type) → List (DataW H) → Bool := fun _ ds => decide (uptoBulkAll ds ≤ 1048576)
def OpenSpec.upto (s : _root_.Go.ChangeSpec) : _root_.Go.OpenSpec := { _root_.Go.OpenSpec.ofChange s with cond := some uptoSmall }

/-- 'laws.FnPolOk', WHERE WHAT IT READS IS OF BULK AT MOST 1048576: true; the input reads as it did. -/
def fnPolOkUptoRow : OpenClaim := { program := "ytclmaenkoapppaa", sum := "14c3a48576e9c2efdf5b94301ad4ec50bbabed703b2d7a6b61f908ea2caae4dc", func := "loop.example/selvedge/laws.FnPolOk", spec := "fnPolOk", unfollowed := true, recurses := true, plainKeys := false, apart := false, narrowed := true }
def FnPolOkUptoSaid : Prop := fnPolOkUptoRow.holds Try.pinned (OpenSpec.upto fnPolOkSpec)

/-- 'laws.FnWylApart', WHERE WHAT IT READS IS OF BULK AT MOST 1048576: true; the input reads as it did. -/
def fnWylApartUptoRow : OpenClaim := { program := "ytclmaenkoapppaa", sum := "14c3a48576e9c2efdf5b94301ad4ec50bbabed703b2d7a6b61f908ea2caae4dc", func := "loop.example/selvedge/laws.FnWylApart", spec := "fnWylApart", unfollowed := true, recurses := true, plainKeys := false, apart := false, narrowed := true }
def FnWylApartUptoSaid : Prop := fnWylApartUptoRow.holds Try.pinned (OpenSpec.upto fnWylApartSpec)

/-- 'laws.FnFilSymbol', WHERE WHAT IT READS IS OF BULK AT MOST 1048576: true; the input reads as it did. -/
def fnFilSymbolUptoRow : OpenClaim := { program := "ytclmaenkoapppaa", sum := "14c3a48576e9c2efdf5b94301ad4ec50bbabed703b2d7a6b61f908ea2caae4dc", func := "loop.example/selvedge/laws.FnFilSymbol", spec := "fnFilSymbol", unfollowed := true, recurses := true, plainKeys := false, apart := false, narrowed := true }
def FnFilSymbolUptoSaid : Prop := fnFilSymbolUptoRow.holds Try.pinned (OpenSpec.upto fnFilSymbolSpec)

/-- 'laws.FnFilPart', WHERE WHAT IT READS IS OF BULK AT MOST 1048576: true; the input reads as it did. -/
def fnFilPartUptoRow : OpenClaim := { program := "ytclmaenkoapppaa", sum := "14c3a48576e9c2efdf5b94301ad4ec50bbabed703b2d7a6b61f908ea2caae4dc", func := "loop.example/selvedge/laws.FnFilPart", spec := "fnFilPart", unfollowed := true, recurses := true, plainKeys := false, apart := false, narrowed := true }
def FnFilPartUptoSaid : Prop := fnFilPartUptoRow.holds Try.pinned (OpenSpec.upto fnFilPartSpec)

end Rows
end Go.Proofs.Ytclmaenkoapppaa
