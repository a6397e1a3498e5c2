/-
  No cell of these rows narrows 'for every input' (looked for: loops, veiled, ifaces, maps, wideKeys, modest, calm, conditions, laid).
  DERIVED. THE GIVEN ROWS OF THIS SEAT. 4 by the template 'for every input the law returns true; each argument reads behind the call as it read before'; 0 by the template 'total and deterministic' (their statements: YtlndccbgbclnhaaTotals.lean).
  GIVEN WITH THE SEED: the statements are not yours to turn. If you find one false, say at which input.
  Laid BY PROGRAM, IN A SANDBOX (cutbox-rows.mjs): the forced cells as the released guide's own fill.sh prints them over the translation 4acc42dbba1254fa… (all of the seat's roots in one cut). By AI agents, Wed Nov 11 2026. No macro, syntax, notation, axiom, sorry.
-/
import Derived.Test.YtlndccbgbclnhaaChecked
import GoSem.Claim
import GoSem.ClaimJoined
import GoSem.ClaimMapViews
import Derived.JoinedTies
import Derived.KernelRfl
namespace Go.Proofs.Ytlndccbgbclnhaa
/- THE CELL 'sum', in the pinned program and in every row, IS THE sha256 OF THE DUMP (.gsa) THAT YtlndccbgbclnhaaProg.lean LOADS. Nothing in Lean hashes anything: it is a label: what it is worth is what the hold of that sum in a sandbox is worth. -/
noncomputable def Try.pinned : Pinned := { name := "ytlndccbgbclnhaa", sum := "4acc42dbba1254fa0b6692db50ffc749e2e87d1f4108d2a8bd9eaf79b5ded55b", checked := Try.checked }
namespace Rows
def none {H : Type} : Left H := { results := [], args := [] }

/-- 'laws.FnMapShift': WHATEVER THE INPUT: true; the input reads as it did. -/
def fnMapShiftSpec : ChangeSpec := { name := "fnMapShift", fn := fun _ => fun
  | [d1, d2] => { results := [.lit (.bool true)], args := [d1, d2] }
  | _ => none }
def fnMapShiftRow : OpenClaim := { program := "ytlndccbgbclnhaa", sum := "4acc42dbba1254fa0b6692db50ffc749e2e87d1f4108d2a8bd9eaf79b5ded55b", func := "loop.example/selvedge/laws.FnMapShift", spec := "fnMapShift", unfollowed := true, recurses := true, plainKeys := false, apart := false }
def FnMapShiftSaid : Prop := fnMapShiftRow.holds Try.pinned (OpenSpec.ofChange fnMapShiftSpec)

/-- ITS FALSE NEIGHBOUR: 'it returns false'. Refute it at one input. -/
def fnMapShiftWrong : ChangeSpec := { name := "fnMapShift", fn := fun _ => fun
  | [d1, d2] => { results := [.lit (.bool false)], args := [d1, d2] }
  | _ => none }
def FnMapShiftWrongFalsely : Prop := fnMapShiftRow.holds Try.pinned (OpenSpec.ofChange fnMapShiftWrong)

/-- 'laws.FnShiftDo': WHATEVER THE INPUT: true; the input reads as it did. -/
def fnShiftDoSpec : ChangeSpec := { name := "fnShiftDo", fn := fun _ => fun
  | [d1, d2] => { results := [.lit (.bool true)], args := [d1, d2] }
  | _ => none }
def fnShiftDoRow : OpenClaim := { program := "ytlndccbgbclnhaa", sum := "4acc42dbba1254fa0b6692db50ffc749e2e87d1f4108d2a8bd9eaf79b5ded55b", func := "loop.example/selvedge/laws.FnShiftDo", spec := "fnShiftDo", unfollowed := true, recurses := true, plainKeys := false, apart := false }
def FnShiftDoSaid : Prop := fnShiftDoRow.holds Try.pinned (OpenSpec.ofChange fnShiftDoSpec)

/-- ITS FALSE NEIGHBOUR: 'it returns false'. Refute it at one input. -/
def fnShiftDoWrong : ChangeSpec := { name := "fnShiftDo", fn := fun _ => fun
  | [d1, d2] => { results := [.lit (.bool false)], args := [d1, d2] }
  | _ => none }
def FnShiftDoWrongFalsely : Prop := fnShiftDoRow.holds Try.pinned (OpenSpec.ofChange fnShiftDoWrong)

/-- 'laws.FnMapLean': WHATEVER THE INPUT: true; the input reads as it did. -/
def fnMapLeanSpec : ChangeSpec := { name := "fnMapLean", fn := fun _ => fun
  | [d1, d2] => { results := [.lit (.bool true)], args := [d1, d2] }
  | _ => none }
def fnMapLeanRow : OpenClaim := { program := "ytlndccbgbclnhaa", sum := "4acc42dbba1254fa0b6692db50ffc749e2e87d1f4108d2a8bd9eaf79b5ded55b", func := "loop.example/selvedge/laws.FnMapLean", spec := "fnMapLean", unfollowed := true, recurses := true, plainKeys := false, apart := false }
def FnMapLeanSaid : Prop := fnMapLeanRow.holds Try.pinned (OpenSpec.ofChange fnMapLeanSpec)

/-- ITS FALSE NEIGHBOUR: 'it returns false'. Refute it at one input. -/
def fnMapLeanWrong : ChangeSpec := { name := "fnMapLean", fn := fun _ => fun
  | [d1, d2] => { results := [.lit (.bool false)], args := [d1, d2] }
  | _ => none }
def FnMapLeanWrongFalsely : Prop := fnMapLeanRow.holds Try.pinned (OpenSpec.ofChange fnMapLeanWrong)

/-- 'laws.FnWylDegree': WHATEVER THE INPUT: true; the input reads as it did. -/
def fnWylDegreeSpec : ChangeSpec := { name := "fnWylDegree", fn := fun _ => fun
  | [d] => { results := [.lit (.bool true)], args := [d] }
  | _ => none }
def fnWylDegreeRow : OpenClaim := { program := "ytlndccbgbclnhaa", sum := "4acc42dbba1254fa0b6692db50ffc749e2e87d1f4108d2a8bd9eaf79b5ded55b", func := "loop.example/selvedge/laws.FnWylDegree", spec := "fnWylDegree", unfollowed := true, recurses := true, plainKeys := false, apart := false }
def FnWylDegreeSaid : Prop := fnWylDegreeRow.holds Try.pinned (OpenSpec.ofChange fnWylDegreeSpec)

/-- ITS FALSE NEIGHBOUR: 'it returns false'. Refute it at one input. -/
def fnWylDegreeWrong : ChangeSpec := { name := "fnWylDegree", fn := fun _ => fun
  | [d] => { results := [.lit (.bool false)], args := [d] }
  | _ => none }
def FnWylDegreeWrongFalsely : Prop := fnWylDegreeRow.holds Try.pinned (OpenSpec.ofChange fnWylDegreeWrong)

/- THE SECOND FORM. 'bulk': how many values and letters a reading holds, each counted each time it is reached (what is shared counts as often as it is met; a slice's spare places count too). A statement '..UptoSaid' is the law's where the arguments, and the package variables that the reading takes, are together of bulk at most 1048576: NARROWER than '..Said'. Prove '..Said' where nothing that the law and all that it calls make is longer than what came in: it says more and counts as full. Else prove '..UptoSaid'. A law counts once. -/
mutual
def uptoBulk {H : Type} : DataW H → Nat
  | .lit (.string bytes) => bytes.length + 1
  | .lit _ => 1
  | .nil => 1
  | .ptr d => uptoBulk d + 1
  | .slice elems spare => uptoBulkAll elems + uptoBulkAll spare + 1
  | .agg parts => uptoBulkAll parts + 1
  | .iface _ d => uptoBulk d + 1
  | .map entries => uptoBulkEntries entries + 1
  | .held _ => 1
def uptoBulkAll {H : Type} : List (DataW H) → Nat
  | [] => 0
  | d :: r => uptoBulk d + uptoBulkAll r
def uptoBulkEntries {H : Type} : List (Lit × DataW H) → Nat
  | [] => 0
  | x :: r => uptoBulkEntry x + uptoBulkEntries r
def uptoBulkEntry {H : Type} : Lit × DataW H → Nat
  | (.string bytes, d) => bytes.length + uptoBulk d + 1
  | (_, d) => uptoBulk d + 1
 end
def uptoSmall : (H : Type) → List (DataW H) → Bool := fun _ ds => decide (uptoBulkAll ds ≤ 1048576)
def OpenSpec.upto (s : _root_.Go.ChangeSpec) : _root_.Go.OpenSpec := { _root_.Go.OpenSpec.ofChange s with cond := some uptoSmall }

/-- 'laws.FnMapShift', WHERE WHAT IT READS IS OF BULK AT MOST 1048576: true; the input reads as it did. -/
def fnMapShiftUptoRow : OpenClaim := { program := "ytlndccbgbclnhaa", sum := "4acc42dbba1254fa0b6692db50ffc749e2e87d1f4108d2a8bd9eaf79b5ded55b", func := "loop.example/selvedge/laws.FnMapShift", spec := "fnMapShift", unfollowed := true, recurses := true, plainKeys := false, apart := false, narrowed := true }
def FnMapShiftUptoSaid : Prop := fnMapShiftUptoRow.holds Try.pinned (OpenSpec.upto fnMapShiftSpec)

/-- 'laws.FnShiftDo', WHERE WHAT IT READS IS OF BULK AT MOST 1048576: true; the input reads as it did. -/
def fnShiftDoUptoRow : OpenClaim := { program := "ytlndccbgbclnhaa", sum := "4acc42dbba1254fa0b6692db50ffc749e2e87d1f4108d2a8bd9eaf79b5ded55b", func := "loop.example/selvedge/laws.FnShiftDo", spec := "fnShiftDo", unfollowed := true, recurses := true, plainKeys := false, apart := false, narrowed := true }
def FnShiftDoUptoSaid : Prop := fnShiftDoUptoRow.holds Try.pinned (OpenSpec.upto fnShiftDoSpec)

/-- 'laws.FnMapLean', WHERE WHAT IT READS IS OF BULK AT MOST 1048576: true; the input reads as it did. -/
def fnMapLeanUptoRow : OpenClaim := { program := "ytlndccbgbclnhaa", sum := "4acc42dbba1254fa0b6692db50ffc749e2e87d1f4108d2a8bd9eaf79b5ded55b", func := "loop.example/selvedge/laws.FnMapLean", spec := "fnMapLean", unfollowed := true, recurses := true, plainKeys := false, apart := false, narrowed := true }
def FnMapLeanUptoSaid : Prop := fnMapLeanUptoRow.holds Try.pinned (OpenSpec.upto fnMapLeanSpec)

/-- 'laws.FnWylDegree', WHERE WHAT IT READS IS OF BULK AT MOST 1048576: true; the input reads as it did. -/
def fnWylDegreeUptoRow : OpenClaim := { program := "ytlndccbgbclnhaa", sum := "4acc42dbba1254fa0b6692db50ffc749e2e87d1f4108d2a8bd9eaf79b5ded55b", func := "loop.example/selvedge/laws.FnWylDegree", spec := "fnWylDegree", unfollowed := true, recurses := true, plainKeys := false, apart := false, narrowed := true }
def FnWylDegreeUptoSaid : Prop := fnWylDegreeUptoRow.holds Try.pinned (OpenSpec.upto fnWylDegreeSpec)

end Rows
end Go.Proofs.Ytlndccbgbclnhaa
