/-
  No cell of these rows narrows 'for every input' (looked for: loops, veiled, ifaces, maps, wideKeys, modest, calm, conditions, laid).
  DERIVED. THE GIVEN ROWS OF THIS SEAT. 5 by the template 'for every input the law returns true; each argument reads behind the call as it read before'; 0 by the template 'total and deterministic' (their statements: YtahbekfhoidgjasTotals.lean).
  GIVEN WITH THE SEED: the statements are not yours to turn. If you find one false, say at which input.
  Laid BY PROGRAM, IN A SANDBOX (cutbox-rows.mjs): the forced cells as the released guide's own fill.sh prints them over the translation b1970f53a8b24b7a… (all of the seat's roots in one cut). By AI agents, Wed Nov 11 2026. No macro, syntax, notation, axiom, sorry.
-/
import Derived.Test.YtahbekfhoidgjasChecked
import GoSem.Claim
import GoSem.ClaimJoined
import GoSem.ClaimMapViews
import Derived.JoinedTies
import Derived.KernelRfl
namespace Go.Proofs.Ytahbekfhoidgjas
/- THE CELL 'sum', in the pinned program and in every row, IS THE sha256 OF THE DUMP (.gsa) THAT YtahbekfhoidgjasProg.lean LOADS. Nothing in Lean hashes anything: it is a label: what it is worth is what the hold of that sum in a sandbox is worth. -/
noncomputable def Try.pinned : Pinned := { name := "ytahbekfhoidgjas", sum := "b1970f53a8b24b7a6fb557f3d78719691814b11dc821b798ec87e346fa8cb69a", checked := Try.checked }
namespace Rows
def none {H : Type} : Left H := { results := [], args := [] }

/-- 'laws.FnExactMonOver': WHATEVER THE INPUT: true; the input reads as it did. -/
def fnExactMonOverSpec : ChangeSpec := { name := "fnExactMonOver", fn := fun _ => fun
  | [d1, d2] => { results := [.lit (.bool true)], args := [d1, d2] }
  | _ => none }
def fnExactMonOverRow : OpenClaim := { program := "ytahbekfhoidgjas", sum := "b1970f53a8b24b7a6fb557f3d78719691814b11dc821b798ec87e346fa8cb69a", func := "loop.example/selvedge/laws.FnExactMonOver", spec := "fnExactMonOver", plainKeys := false, apart := false }
def FnExactMonOverSaid : Prop := fnExactMonOverRow.holds Try.pinned (OpenSpec.ofChange fnExactMonOverSpec)

/-- ITS FALSE NEIGHBOUR: 'it returns false'. Refute it at one input. -/
def fnExactMonOverWrong : ChangeSpec := { name := "fnExactMonOver", fn := fun _ => fun
  | [d1, d2] => { results := [.lit (.bool false)], args := [d1, d2] }
  | _ => none }
def FnExactMonOverWrongFalsely : Prop := fnExactMonOverRow.holds Try.pinned (OpenSpec.ofChange fnExactMonOverWrong)

/-- 'laws.FnExactMonBoth': WHATEVER THE INPUT: true; the input reads as it did. -/
def fnExactMonBothSpec : ChangeSpec := { name := "fnExactMonBoth", fn := fun _ => fun
  | [d1, d2] => { results := [.lit (.bool true)], args := [d1, d2] }
  | _ => none }
def fnExactMonBothRow : OpenClaim := { program := "ytahbekfhoidgjas", sum := "b1970f53a8b24b7a6fb557f3d78719691814b11dc821b798ec87e346fa8cb69a", func := "loop.example/selvedge/laws.FnExactMonBoth", spec := "fnExactMonBoth", plainKeys := false, apart := false }
def FnExactMonBothSaid : Prop := fnExactMonBothRow.holds Try.pinned (OpenSpec.ofChange fnExactMonBothSpec)

/-- ITS FALSE NEIGHBOUR: 'it returns false'. Refute it at one input. -/
def fnExactMonBothWrong : ChangeSpec := { name := "fnExactMonBoth", fn := fun _ => fun
  | [d1, d2] => { results := [.lit (.bool false)], args := [d1, d2] }
  | _ => none }
def FnExactMonBothWrongFalsely : Prop := fnExactMonBothRow.holds Try.pinned (OpenSpec.ofChange fnExactMonBothWrong)

/-- 'laws.FnExactPolOk': WHATEVER THE INPUT: true; the input reads as it did. -/
def fnExactPolOkSpec : ChangeSpec := { name := "fnExactPolOk", fn := fun _ => fun
  | [d] => { results := [.lit (.bool true)], args := [d] }
  | _ => none }
def fnExactPolOkRow : OpenClaim := { program := "ytahbekfhoidgjas", sum := "b1970f53a8b24b7a6fb557f3d78719691814b11dc821b798ec87e346fa8cb69a", func := "loop.example/selvedge/laws.FnExactPolOk", spec := "fnExactPolOk", plainKeys := false, apart := false }
def FnExactPolOkSaid : Prop := fnExactPolOkRow.holds Try.pinned (OpenSpec.ofChange fnExactPolOkSpec)

/-- ITS FALSE NEIGHBOUR: 'it returns false'. Refute it at one input. -/
def fnExactPolOkWrong : ChangeSpec := { name := "fnExactPolOk", fn := fun _ => fun
  | [d] => { results := [.lit (.bool false)], args := [d] }
  | _ => none }
def FnExactPolOkWrongFalsely : Prop := fnExactPolOkRow.holds Try.pinned (OpenSpec.ofChange fnExactPolOkWrong)

/-- 'laws.FnExactPolOf': WHATEVER THE INPUT: true; the input reads as it did. -/
def fnExactPolOfSpec : ChangeSpec := { name := "fnExactPolOf", fn := fun _ => fun
  | [d1, d2] => { results := [.lit (.bool true)], args := [d1, d2] }
  | _ => none }
def fnExactPolOfRow : OpenClaim := { program := "ytahbekfhoidgjas", sum := "b1970f53a8b24b7a6fb557f3d78719691814b11dc821b798ec87e346fa8cb69a", func := "loop.example/selvedge/laws.FnExactPolOf", spec := "fnExactPolOf", plainKeys := false, apart := false }
def FnExactPolOfSaid : Prop := fnExactPolOfRow.holds Try.pinned (OpenSpec.ofChange fnExactPolOfSpec)

/-- ITS FALSE NEIGHBOUR: 'it returns false'. Refute it at one input. -/
def fnExactPolOfWrong : ChangeSpec := { name := "fnExactPolOf", fn := fun _ => fun
  | [d1, d2] => { results := [.lit (.bool false)], args := [d1, d2] }
  | _ => none }
def FnExactPolOfWrongFalsely : Prop := fnExactPolOfRow.holds Try.pinned (OpenSpec.ofChange fnExactPolOfWrong)

/-- 'laws.FnExactPolAdd': WHATEVER THE INPUT: true; the input reads as it did. -/
def fnExactPolAddSpec : ChangeSpec := { name := "fnExactPolAdd", fn := fun _ => fun
  | [d1, d2] => { results := [.lit (.bool true)], args := [d1, d2] }
  | _ => none }
def fnExactPolAddRow : OpenClaim := { program := "ytahbekfhoidgjas", sum := "b1970f53a8b24b7a6fb557f3d78719691814b11dc821b798ec87e346fa8cb69a", func := "loop.example/selvedge/laws.FnExactPolAdd", spec := "fnExactPolAdd", unfollowed := true, recurses := true, plainKeys := false, apart := false }
def FnExactPolAddSaid : Prop := fnExactPolAddRow.holds Try.pinned (OpenSpec.ofChange fnExactPolAddSpec)

/-- ITS FALSE NEIGHBOUR: 'it returns false'. Refute it at one input. -/
def fnExactPolAddWrong : ChangeSpec := { name := "fnExactPolAdd", fn := fun _ => fun
  | [d1, d2] => { results := [.lit (.bool false)], args := [d1, d2] }
  | _ => none }
def FnExactPolAddWrongFalsely : Prop := fnExactPolAddRow.holds Try.pinned (OpenSpec.ofChange fnExactPolAddWrong)

/- THE SECOND FORM. 'bulk': how many values and letters a reading holds, each counted each time it is reached (what is shared counts as often as it is met; a slice's spare places count too). A statement '..UptoSaid' is the law's where the arguments, and the package variables that the reading takes, are together of bulk at most 1048576: NARROWER than '..Said'. Prove '..Said' where nothing that the law and all that it calls make is longer than what came in: it says more and counts as full. Else prove '..UptoSaid'. A law counts once. -/
mutual
def uptoBulk {H : Type} : DataW H → Nat
  | .lit (.string bytes) => bytes.length + 1
  | .lit _ => 1
  | .nil => 1
  | .ptr d => uptoBulk d + 1
  | .slice elems spare => uptoBulkAll elems + uptoBulkAll spare + 1
  | .agg parts => uptoBulkAll parts + 1
  | .iface _ d => uptoBulk d + 1
  | .map entries => uptoBulkEntries entries + 1
  | .held _ => 1
def uptoBulkAll {H : Type} : List (DataW H) → Nat
  | [] => 0
  | d :: r => uptoBulk d + uptoBulkAll r
def uptoBulkEntries {H : Type} : List (Lit × DataW H) → Nat
  | [] => 0
  | x :: r => uptoBulkEntry x + uptoBulkEntries r
def uptoBulkEntry {H : Type} : Lit × DataW H → Nat
  | (.string bytes, d) => bytes.length + uptoBulk d + 1
  | (_, d) => uptoBulk d + 1
 end
def uptoSmall : (H : Type) → List (DataW H) → Bool := fun _ ds => decide (uptoBulkAll ds ≤ 1048576)
def OpenSpec.upto (s : _root_.Go.ChangeSpec) : _root_.Go.OpenSpec := { _root_.Go.OpenSpec.ofChange s with cond := some uptoSmall }

/-- 'laws.FnExactMonOver', WHERE WHAT IT READS IS OF BULK AT MOST 1048576: true; the input reads as it did. -/
def fnExactMonOverUptoRow : OpenClaim := { program := "ytahbekfhoidgjas", sum := "b1970f53a8b24b7a6fb557f3d78719691814b11dc821b798ec87e346fa8cb69a", func := "loop.example/selvedge/laws.FnExactMonOver", spec := "fnExactMonOver", plainKeys := false, apart := false, narrowed := true }
def FnExactMonOverUptoSaid : Prop := fnExactMonOverUptoRow.holds Try.pinned (OpenSpec.upto fnExactMonOverSpec)

/-- 'laws.FnExactMonBoth', WHERE WHAT IT READS IS OF BULK AT MOST 1048576: true; the input reads as it did. -/
def fnExactMonBothUptoRow : OpenClaim := { program := "ytahbekfhoidgjas", sum := "b1970f53a8b24b7a6fb557f3d78719691814b11dc821b798ec87e346fa8cb69a", func := "loop.example/selvedge/laws.FnExactMonBoth", spec := "fnExactMonBoth", plainKeys := false, apart := false, narrowed := true }
def FnExactMonBothUptoSaid : Prop := fnExactMonBothUptoRow.holds Try.pinned (OpenSpec.upto fnExactMonBothSpec)

/-- 'laws.FnExactPolOk', WHERE WHAT IT READS IS OF BULK AT MOST 1048576: true; the input reads as it did. -/
def fnExactPolOkUptoRow : OpenClaim := { program := "ytahbekfhoidgjas", sum := "b1970f53a8b24b7a6fb557f3d78719691814b11dc821b798ec87e346fa8cb69a", func := "loop.example/selvedge/laws.FnExactPolOk", spec := "fnExactPolOk", plainKeys := false, apart := false, narrowed := true }
def FnExactPolOkUptoSaid : Prop := fnExactPolOkUptoRow.holds Try.pinned (OpenSpec.upto fnExactPolOkSpec)

/-- 'laws.FnExactPolOf', WHERE WHAT IT READS IS OF BULK AT MOST 1048576: true; the input reads as it did. -/
def fnExactPolOfUptoRow : OpenClaim := { program := "ytahbekfhoidgjas", sum := "b1970f53a8b24b7a6fb557f3d78719691814b11dc821b798ec87e346fa8cb69a", func := "loop.example/selvedge/laws.FnExactPolOf", spec := "fnExactPolOf", plainKeys := false, apart := false, narrowed := true }
def FnExactPolOfUptoSaid : Prop := fnExactPolOfUptoRow.holds Try.pinned (OpenSpec.upto fnExactPolOfSpec)

/-- 'laws.FnExactPolAdd', WHERE WHAT IT READS IS OF BULK AT MOST 1048576: true; the input reads as it did. -/
def fnExactPolAddUptoRow : OpenClaim := { program := "ytahbekfhoidgjas", sum := "b1970f53a8b24b7a6fb557f3d78719691814b11dc821b798ec87e346fa8cb69a", func := "loop.example/selvedge/laws.FnExactPolAdd", spec := "fnExactPolAdd", unfollowed := true, recurses := true, plainKeys := false, apart := false, narrowed := true }
def FnExactPolAddUptoSaid : Prop := fnExactPolAddUptoRow.holds Try.pinned (OpenSpec.upto fnExactPolAddSpec)

end Rows
end Go.Proofs.Ytahbekfhoidgjas
